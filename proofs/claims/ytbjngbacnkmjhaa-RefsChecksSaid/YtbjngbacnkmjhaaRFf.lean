/- The document's Set of layer 37 over this translation. Conditions: at most 100,000 refs, a name that is no longer than a text may be. -/
import Derived.Test.YtbjngbacnkmjhaaRFp
namespace Go.Proofs.Ytbjngbacnkmjhaa
open Go.RowKit Vi

theorem OwX.laterR {α : Type} {f : α → List Value} {s : Nat} {T : TypeId} {w w' : World} {B : Nat} {v : Value} {l : List α} (h : OwX f s T w B v l) (hb : Below w.heap.size w w') : OwX f s T w' B v l := h.kept hb
theorem filtR_take {α : Type} (p : α → Bool) (l : List α) (k : Nat) (h : k < l.length) : (l.take (k + 1)).filter p = (l.take k).filter p ++ (if p l[k] = true then [l[k]] else []) := by
  rw [List.take_succ_eq_append_getElem h, List.filter_append]
  congr 1
  cases hp : p l[k] <;> simp [hp]
theorem filtR_len {α : Type} (p : α → Bool) (l : List α) (k : Nat) : ((l.take k).filter p).length ≤ k := by
  have h1 := List.length_filter_le p (l.take k)
  rw [List.length_take] at h1
  omega
set_option maxRecDepth 100000 in
set_option maxHeartbeats 8000000 in
theorem rfdset_any (A : Option Addr) (n c : Nat) (l : List Rf) (k : Int) (s old now : ByteArray) (w : World) (h : RdX rfC 3 w A n l) (hn : n ≤ 100000) (hs : s.size ≤ maxLen) :
    Calls Try.prog 61 #[.slice A n c, .int .i64 k, .string s, .string old, .string now] w (RetRV w (stV l k s old now) (stE l k s old now)) := by
  have H := Lib.hid h
  have L := Lib.hid h.1
  have HG := Lib.hid (fun (W : World) (q : RdX rfC 3 W A n l) => rfdget_any A n c l k s now W q (by unfold maxLen; omega))
  have HIN := Lib.hid (fun W : World => refIs_any s W hs)
  have HE := Lib.hid (show stE l k s old now = if okN k s = false then 2 else if emB old = true ∧ emB now = true then 2
    else if ((isR l (k, s, now)).toList == old.toList) = false then (if emB old = true then 10 else if emB (isR l (k, s, now)) = true then 9 else 12)
    else if emB old = true ∧ 64 ≤ l.length then 5 else 0 from rfl)
  have HSL := Lib.hid (show stL l (k, s, now) = l.filter (fun a => lessR a (k, s, now)) ++ (if emB now = true then [] else [(k, s, now)]) ++ l.filter (fun a => lessR (k, s, now) a) from rfl)
  have HSV := Lib.hid (fun q : stE l k s old now = 0 => show stV l k s old now = stL l (k, s, now) by unfold stV; rw [if_pos q])
  clear h
  generalize isR l (k, s, now) = m at *
  by_cases q1 : k < 1
  · have d1 : decide (k < 1) = true := decide_eq_true q1
    have HV := Lib.hid (st_bad (HE.out.trans (if_pos (by unfold okN; rw [decide_eq_false (show ¬ k = 1 by omega), decide_eq_false (show ¬ k = 2 by omega)]; rfl))) (by decide))
    clear HE HSL HSV
    have HB1 := Lib.hid (Below.refl w.heap.size w)
    go_enter Try.func61, Try.ntmps61
    go_wp2_with fail
    go_ret2
    exact ⟨_, by first | (rw [HV.out.1]; done) | (rw [HV.out.1]; rfl), by rw [HV.out.2]; exact RV.nil _, HB1.out⟩
  have d1 : decide (k < 1) = false := decide_eq_false q1
  by_cases q2 : 2 < k
  · have d2 : decide (2 < k) = true := decide_eq_true q2
    have HV := Lib.hid (st_bad (HE.out.trans (if_pos (by unfold okN; rw [decide_eq_false (show ¬ k = 1 by omega), decide_eq_false (show ¬ k = 2 by omega)]; rfl))) (by decide))
    clear HE HSL HSV
    have HB1 := Lib.hid (Below.refl w.heap.size w)
    go_enter Try.func61, Try.ntmps61
    go_wp2_with fail
    go_ret2
    exact ⟨_, by first | (rw [HV.out.1]; done) | (rw [HV.out.1]; rfl), by rw [HV.out.2]; exact RV.nil _, HB1.out⟩
  have d2 : decide (2 < k) = false := decide_eq_false q2
  have HKK := Lib.hid (show (decide (k = 1) || decide (k = 2)) = true by
    rcases (show k = 1 ∨ k = 2 by omega) with e | e
    · rw [decide_eq_true e]; rfl
    · rw [decide_eq_true e]; simp)
  clear q1 q2
  cases hk : nm s with
  | false =>
    rw [hk] at HIN
    have HV := Lib.hid (st_bad (HE.out.trans (if_pos (by unfold okN; rw [hk, Bool.and_false]))) (by decide))
    clear hk
    clear HE HSL HSV
    have HB1 := Lib.hid (Below.refl w.heap.size w)
    go_enter Try.func61, Try.ntmps61
    go_wp2_with fail
    refine (HIN.out w).mono ?_
    rintro e w' ⟨rfl, rfl⟩
    go_wp2_with fail
    go_ret2
    exact ⟨_, by first | (rw [HV.out.1]; done) | (rw [HV.out.1]; rfl), by rw [HV.out.2]; exact RV.nil _, HB1.out⟩
  | true =>
    have HOK := Lib.hid (show okN k s = true by unfold okN; rw [HKK.out, hk]; rfl)
    rw [hk] at HIN
    clear hk
    cases ho : old.toList.isEmpty with
    | true =>
      have ho2 : emB old = true := ho
      cases hw : now.toList.isEmpty with
      | true =>
        have hw2 : emB now = true := hw
        have HV := Lib.hid (st_bad (HE.out.trans (by rw [if_neg (by rw [HOK.out]; simp), if_pos ⟨ho2, hw2⟩])) (by decide))
        clear ho2 hw2
        clear HE HSL HSV
        have HB1 := Lib.hid (Below.refl w.heap.size w)
        go_enter Try.func61, Try.ntmps61
        go_wp2_with fail
        refine (HIN.out w).mono ?_
        rintro e w' ⟨rfl, rfl⟩
        go_wp2_with fail
        go_ret2
        exact ⟨_, by first | (rw [HV.out.1]; done) | (rw [HV.out.1]; rfl), by rw [HV.out.2]; exact RV.nil _, HB1.out⟩
      | false =>
        have hw2 : emB now = false := hw
        cases heq : (m.toList == old.toList) with
        | false =>
          have HV := Lib.hid (st_bad (HE.out.trans (by rw [if_neg (by rw [HOK.out]; simp), if_neg (fun q => by rw [hw2] at q; cases q.2), if_pos heq, if_pos ho2])) (by decide))
          clear ho2 hw2
          clear HE HSL HSV
          have HB1 := Lib.hid (Below.refl w.heap.size w)
          go_enter Try.func61, Try.ntmps61
          go_wp2_with fail
          refine (HIN.out w).mono ?_
          rintro e w' ⟨rfl, rfl⟩
          go_wp2_with fail
          refine (HG.out w (H.out.below HB1.out)).mono ?_
          rintro e w1 ⟨rfl, hb1⟩
          have HB2 := Lib.hid (HB1.out.trans (hb1.mono HB1.out.size))
          clear hb1 HB1 
          go_wp2_with fail
          go_ret2
          exact ⟨_, by first | (rw [HV.out.1]; done) | (rw [HV.out.1]; rfl), by rw [HV.out.2]; exact RV.nil _, HB2.out⟩
        | true =>
          by_cases h64 : 64 ≤ n
          · have d64 : decide ((64 : Int) ≤ (n : Int)) = true := decide_eq_true (by omega)
            have HV := Lib.hid (st_bad (HE.out.trans (by rw [if_neg (by rw [HOK.out]; simp), if_neg (fun q => by rw [hw2] at q; cases q.2), if_neg (by rw [heq]; simp), if_pos ⟨ho2, by rw [L.out]; exact h64⟩])) (by decide))
            clear ho2 hw2
            clear HE HSL HSV
            have HB1 := Lib.hid (Below.refl w.heap.size w)
            go_enter Try.func61, Try.ntmps61
            go_wp2_with fail
            refine (HIN.out w).mono ?_
            rintro e w' ⟨rfl, rfl⟩
            go_wp2_with fail
            refine (HG.out w (H.out.below HB1.out)).mono ?_
            rintro e w1 ⟨rfl, hb1⟩
            have HB2 := Lib.hid (HB1.out.trans (hb1.mono HB1.out.size))
            clear hb1 HB1 
            go_wp2_with fail
            go_ret2
            exact ⟨_, by first | (rw [HV.out.1]; done) | (rw [HV.out.1]; rfl), by rw [HV.out.2]; exact RV.nil _, HB2.out⟩
          · have d64 : decide ((64 : Int) ≤ (n : Int)) = false := decide_eq_false (by omega)
            have hz : stE l k s old now = 0 := HE.out.trans (by rw [if_neg (by rw [HOK.out]; simp), if_neg (fun q => by rw [hw2] at q; cases q.2), if_neg (by rw [heq]; simp), if_neg (fun q => h64 (by rw [← L.out]; exact q.2))])
            have HV := Lib.hid (show stE l k s old now = 0 ∧ stV l k s old now = (l.filter (fun a => lessR a (k, s, now)) ++ [(k, s, now)]) ++ l.filter (fun a => lessR (k, s, now) a) from ⟨hz, by rw [HSV.out hz, HSL.out, if_neg (by rw [hw2]; simp)]⟩)
            clear ho2 hw2 hz h64
            clear HE HSL HSV
            have HB1 := Lib.hid (Below.refl w.heap.size w)
            go_enter Try.func61, Try.ntmps61
            go_wp2_with fail
            refine (HIN.out w).mono ?_
            rintro e w' ⟨rfl, rfl⟩
            go_wp2_with fail
            refine (HG.out w (H.out.below HB1.out)).mono ?_
            rintro e w1 ⟨rfl, hb1⟩
            have HB2 := Lib.hid (HB1.out.trans (hb1.mono HB1.out.size))
            clear hb1 HB1 
            have hw1 : w.heap.size ≤ w1.heap.size := HB2.out.size
            have HF3 := Lib.hid (blk_new w1 (.cells #[.int .i64 k, .string s, .string now] 97 (0, 0)))
            have HB4 := Lib.hid (HB2.out.alloc HB2.out.size (.cells #[.int .i64 k, .string s, .string now] 97 (0, 0)))
            clear HB2
            go_wp2_with fail
            go_loopw [14, 62] (fun vv i wr => ∃ (k9 : Nat) (v : Value) (M : List Rf), v = vv ∧ i = .int .i64 (k9 : Int) ∧ k9 ≤ n ∧ M = (l.take k9).filter (fun a => lessR a (k, s, now)) ∧ OwX rfC 3 97 wr (w1.heap.size + 1) v M ∧ wr.heap[w1.heap.size]? = some (.cells #[.int .i64 k, .string s, .string now] 97 (0, 0)) ∧ Below w.heap.size w wr) (fun _ i _ => n - (intOf i).toNat)
            case atStart => exact ⟨0, _, [], rfl, rfl, Nat.zero_le _, rfl, OwX.nil _, HF3.out, HB4.out⟩
            case round =>
              obtain ⟨k9, v, M, rfl, rfl, hk, hM, how, hbx, hb⟩ := hrel
              have HM := Lib.hid hM
              have HO := Lib.hid how
              have HBX := Lib.hid hbx
              have HB := Lib.hid hb
              have hv := how.one
              have hCw := lt_of_block hbx
              clear hM how hbx hb
              by_cases hlt : k9 < n
              · have hd1 : decide ((k9 : Int) < (n : Int)) = true := decide_eq_true (by omega)
                obtain ⟨b, off, hl, rfl, hbb, _⟩ := (H.out.below HB.out).at hlt
                have HFT := Lib.hid (filtR_take (fun a => lessR a (k, s, now)) l k9 hl)
                have hfl := filtR_len (fun a => lessR a (k, s, now)) l k9
                obtain ⟨y, hy⟩ : ∃ y, l[k9] = y := ⟨_, rfl⟩
                have HX := Lib.hid (show l[k9]? = some y by rw [List.getElem?_eq_getElem hl, hy])
                rw [hy] at HFT
                obtain ⟨y1, y2, y3⟩ := y
                have hi0 : (0 : Int) ≤ (k9 : Int) := by omega
                clear hy
                have HF := Lib.hid (fun W : World => rfless_any y1 y2 y3 k s now W)
                cases hq : lessR (y1, y2, y3) (k, s, now) with
                | true =>
                  rw [hq] at HF
                  have HR := Lib.hid (show M ++ [(y1, y2, y3)] = (l.take (k9 + 1)).filter (fun a => lessR a (k, s, now)) by rw [HFT.out, if_pos hq, HM.out])
                  have hML : M.length ≤ 200002 := by rw [HM.out]; omega
                  clear hq
                  have hc101 : wr.cell? ⟨b, off + k9 * 3, none⟩ = some (.int .i64 y1) := (H.out.below HB.out).cellAt HX.out hlt 0 _ rfl
                  have hc102 : wr.cell? ⟨b, off + k9 * 3 + 1, none⟩ = some (.string y2) := (H.out.below HB.out).cellAt HX.out hlt 1 _ rfl
                  have hc103 : wr.cell? ⟨b, off + k9 * 3 + 2, none⟩ = some (.string y3) := (H.out.below HB.out).cellAt HX.out hlt 2 _ rfl
                  have HF104 := Lib.hid (blk_alloc HBX.out (.cells #[.int .i64 y1, .string y2, .string y3] 97 (0, 0)))
                  have HF105 := Lib.hid (blk_new wr (.cells #[.int .i64 y1, .string y2, .string y3] 97 (0, 0)))
                  have HB106 := Lib.hid (HB.out.alloc HB.out.size (.cells #[.int .i64 y1, .string y2, .string y3] 97 (0, 0)))
                  clear HB
                  have hc107 : (wr.alloc (.cells #[.int .i64 y1, .string y2, .string y3] 97 (0, 0))).cell? ⟨wr.heap.size, 0, none⟩ = some (.int .i64 y1) := by rw [cell_of_row _ _ _ _ _ _ HF105.out]; rfl
                  have hc108 : (wr.alloc (.cells #[.int .i64 y1, .string y2, .string y3] 97 (0, 0))).cell? ⟨wr.heap.size, 1, none⟩ = some (.string y2) := by rw [cell_of_row _ _ _ _ _ _ HF105.out]; rfl
                  have hc109 : (wr.alloc (.cells #[.int .i64 y1, .string y2, .string y3] 97 (0, 0))).cell? ⟨wr.heap.size, 2, none⟩ = some (.string y3) := by rw [cell_of_row _ _ _ _ _ _ HF105.out]; rfl
                  have hc110 : (wr.alloc (.cells #[.int .i64 y1, .string y2, .string y3] 97 (0, 0))).cell? ⟨w1.heap.size, 0, none⟩ = some (.int .i64 k) := by rw [cell_of_row _ _ _ _ _ _ HF104.out]; rfl
                  have hc111 : wr.cell? ⟨w1.heap.size, 0, none⟩ = some (.int .i64 k) := by rw [cell_of_row _ _ _ _ _ _ HBX.out]; rfl
                  have hc112 : (wr.alloc (.cells #[.int .i64 y1, .string y2, .string y3] 97 (0, 0))).cell? ⟨w1.heap.size, 1, none⟩ = some (.string s) := by rw [cell_of_row _ _ _ _ _ _ HF104.out]; rfl
                  have hc113 : wr.cell? ⟨w1.heap.size, 1, none⟩ = some (.string s) := by rw [cell_of_row _ _ _ _ _ _ HBX.out]; rfl
                  have hc114 : (wr.alloc (.cells #[.int .i64 y1, .string y2, .string y3] 97 (0, 0))).cell? ⟨w1.heap.size, 2, none⟩ = some (.string now) := by rw [cell_of_row _ _ _ _ _ _ HF104.out]; rfl
                  have hc115 : wr.cell? ⟨w1.heap.size, 2, none⟩ = some (.string now) := by rw [cell_of_row _ _ _ _ _ _ HBX.out]; rfl
                  have hl116 : w1.heap.size < wr.heap.size := lt_of_block HBX.out
                  have hl117 : ¬ w1.heap.size = wr.heap.size := by omega
                  have HO1 := Lib.hid (HO.out.alloc (.cells #[.int .i64 y1, .string y2, .string y3] 97 (0, 0)))
                  go_wp2_with fail
                  refine (HF.out (wr.alloc (.cells #[.int .i64 y1, .string y2, .string y3] 97 (0, 0)))).mono ?_
                  rintro e w11 ⟨rfl, hb11⟩
                  clear hc101 hc102 hc103 hc107 hc108 hc109 hc110 hc111 hc112 hc113 hc114 hc115 hl116 hl117
                  have HF118 := Lib.hid (blk_below HF104.out hb11)
                  have HF119 := Lib.hid (blk_below HF105.out hb11)
                  have HB120 := Lib.hid (HB106.out.trans (hb11.mono HB106.out.size))
                  have HQ121 := Lib.hid (HO1.out.laterR hb11)
                  clear HO1
                  clear hb11 HB106 HF104 HBX HF105
                  have hc122 : w11.cell? ⟨wr.heap.size, 0, none⟩ = some (.int .i64 y1) := by rw [cell_of_row _ _ _ _ _ _ HF119.out]; rfl
                  have hc123 : w11.cell? ⟨wr.heap.size, 1, none⟩ = some (.string y2) := by rw [cell_of_row _ _ _ _ _ _ HF119.out]; rfl
                  have hc124 : w11.cell? ⟨wr.heap.size, 2, none⟩ = some (.string y3) := by rw [cell_of_row _ _ _ _ _ _ HF119.out]; rfl
                  have hz1 : w1.heap.size + 1 ≤ w11.heap.size := by have := lt_of_block HF118.out; omega
                  have HRa := Lib.hid (Below.refl (w1.heap.size + 1) w11)
                  go_wp2_with (at_builtin; refine wpList_appX rfl (.tmp 69) (.tmp 71) 93 97 _ 40 rfl Try.underlying93 info_rfB rfl (by omega) (by omega) rfC_len rfC_one (w1.heap.size + 1) w11 (HRa.out.alloc hz1 _) (by simp; omega) v _ rfl (HQ121.out.alloc _) w11.heap.size 1 (y1, y2, y3) #[.int .i64 y1, .string y2, .string y3] 97 (0, 0) rfl (heap_alloc_new w11 _) rfl (by omega) ?_)
                  intro v7 w7 HO7 HB7 HZ7 HG7
                  clear hc122 hc123 hc124
                  have HX7 := Lib.hid ((HB7.out.block (w1.heap.size) (by omega)).trans HF118.out)
                  have HL7 := Lib.hid (HB120.out.trans (HB7.out.mono (by omega)))
                  have hv7 := HO7.out.one
                  go_wp2_with fail
                  go_roundw
                  case rel => exact ⟨k9 + 1, v7, _, rfl, by go_num, by omega, HR.out, HO7.out, HX7.out, HL7.out⟩
                  case measure => simp [intOf] <;> omega
                | false =>
                  rw [hq] at HF
                  have HR := Lib.hid (show M = (l.take (k9 + 1)).filter (fun a => lessR a (k, s, now)) by rw [HFT.out, if_neg (by rw [hq]; simp), List.append_nil, HM.out])
                  clear hq
                  have hc101 : wr.cell? ⟨b, off + k9 * 3, none⟩ = some (.int .i64 y1) := (H.out.below HB.out).cellAt HX.out hlt 0 _ rfl
                  have hc102 : wr.cell? ⟨b, off + k9 * 3 + 1, none⟩ = some (.string y2) := (H.out.below HB.out).cellAt HX.out hlt 1 _ rfl
                  have hc103 : wr.cell? ⟨b, off + k9 * 3 + 2, none⟩ = some (.string y3) := (H.out.below HB.out).cellAt HX.out hlt 2 _ rfl
                  have HF104 := Lib.hid (blk_alloc HBX.out (.cells #[.int .i64 y1, .string y2, .string y3] 97 (0, 0)))
                  have HF105 := Lib.hid (blk_new wr (.cells #[.int .i64 y1, .string y2, .string y3] 97 (0, 0)))
                  have HB106 := Lib.hid (HB.out.alloc HB.out.size (.cells #[.int .i64 y1, .string y2, .string y3] 97 (0, 0)))
                  clear HB
                  have hc107 : (wr.alloc (.cells #[.int .i64 y1, .string y2, .string y3] 97 (0, 0))).cell? ⟨wr.heap.size, 0, none⟩ = some (.int .i64 y1) := by rw [cell_of_row _ _ _ _ _ _ HF105.out]; rfl
                  have hc108 : (wr.alloc (.cells #[.int .i64 y1, .string y2, .string y3] 97 (0, 0))).cell? ⟨wr.heap.size, 1, none⟩ = some (.string y2) := by rw [cell_of_row _ _ _ _ _ _ HF105.out]; rfl
                  have hc109 : (wr.alloc (.cells #[.int .i64 y1, .string y2, .string y3] 97 (0, 0))).cell? ⟨wr.heap.size, 2, none⟩ = some (.string y3) := by rw [cell_of_row _ _ _ _ _ _ HF105.out]; rfl
                  have hc110 : (wr.alloc (.cells #[.int .i64 y1, .string y2, .string y3] 97 (0, 0))).cell? ⟨w1.heap.size, 0, none⟩ = some (.int .i64 k) := by rw [cell_of_row _ _ _ _ _ _ HF104.out]; rfl
                  have hc111 : wr.cell? ⟨w1.heap.size, 0, none⟩ = some (.int .i64 k) := by rw [cell_of_row _ _ _ _ _ _ HBX.out]; rfl
                  have hc112 : (wr.alloc (.cells #[.int .i64 y1, .string y2, .string y3] 97 (0, 0))).cell? ⟨w1.heap.size, 1, none⟩ = some (.string s) := by rw [cell_of_row _ _ _ _ _ _ HF104.out]; rfl
                  have hc113 : wr.cell? ⟨w1.heap.size, 1, none⟩ = some (.string s) := by rw [cell_of_row _ _ _ _ _ _ HBX.out]; rfl
                  have hc114 : (wr.alloc (.cells #[.int .i64 y1, .string y2, .string y3] 97 (0, 0))).cell? ⟨w1.heap.size, 2, none⟩ = some (.string now) := by rw [cell_of_row _ _ _ _ _ _ HF104.out]; rfl
                  have hc115 : wr.cell? ⟨w1.heap.size, 2, none⟩ = some (.string now) := by rw [cell_of_row _ _ _ _ _ _ HBX.out]; rfl
                  have hl116 : w1.heap.size < wr.heap.size := lt_of_block HBX.out
                  have hl117 : ¬ w1.heap.size = wr.heap.size := by omega
                  have HO1 := Lib.hid (HO.out.alloc (.cells #[.int .i64 y1, .string y2, .string y3] 97 (0, 0)))
                  go_wp2_with fail
                  refine (HF.out (wr.alloc (.cells #[.int .i64 y1, .string y2, .string y3] 97 (0, 0)))).mono ?_
                  rintro e w11 ⟨rfl, hb11⟩
                  clear hc101 hc102 hc103 hc107 hc108 hc109 hc110 hc111 hc112 hc113 hc114 hc115 hl116 hl117
                  have HF118 := Lib.hid (blk_below HF104.out hb11)
                  have HF119 := Lib.hid (blk_below HF105.out hb11)
                  have HB120 := Lib.hid (HB106.out.trans (hb11.mono HB106.out.size))
                  have HQ121 := Lib.hid (HO1.out.laterR hb11)
                  clear HO1
                  clear hb11 HB106 HF104 HBX HF105
                  go_wp2_with fail
                  go_roundw
                  case rel => exact ⟨k9 + 1, v, M, rfl, by go_num, by omega, HR.out, HQ121.out, HF118.out, HB120.out⟩
                  case measure => simp [intOf] <;> omega
              · have hd1 : decide ((k9 : Int) < (n : Int)) = false := decide_eq_false (by omega)
                have HEE := Lib.hid (show l.take k9 = l from List.take_of_length_le (by rw [L.out]; omega))
                have HM1 := Lib.hid (show M = l.filter (fun a => lessR a (k, s, now)) by rw [HM.out, HEE.out])
                have HFL := Lib.hid (show (l.filter (fun a => lessR a (k, s, now))).length ≤ 100000 by have := List.length_filter_le (fun a => lessR a (k, s, now)) l; have := L.out; omega)
                have hc101 : wr.cell? ⟨w1.heap.size, 0, none⟩ = some (.int .i64 k) := by rw [cell_of_row _ _ _ _ _ _ HBX.out]; rfl
                have hc102 : wr.cell? ⟨w1.heap.size, 1, none⟩ = some (.string s) := by rw [cell_of_row _ _ _ _ _ _ HBX.out]; rfl
                have hc103 : wr.cell? ⟨w1.heap.size, 2, none⟩ = some (.string now) := by rw [cell_of_row _ _ _ _ _ _ HBX.out]; rfl
                have hz1 : w1.heap.size + 1 ≤ wr.heap.size := by omega
                have HRa := Lib.hid (Below.refl (w1.heap.size + 1) wr)
                go_wp2_with (at_builtin; refine wpList_appX rfl (.tmp 76) (.tmp 78) 93 97 _ 40 rfl Try.underlying93 info_rfB rfl (by omega) (by omega) rfC_len rfC_one (w1.heap.size + 1) wr (HRa.out.alloc hz1 _) (by simp; omega) v _ rfl (HO.out.alloc _) wr.heap.size 1 (k, s, now) #[.int .i64 k, .string s, .string now] 97 (0, 0) rfl (heap_alloc_new wr _) rfl (by rw [HM1.out]; have := HFL.out; omega) ?_)
                intro v7 w7 HO7 HB7 HZ7 HG7
                clear hc101 hc102 hc103
                have HX7 := Lib.hid ((HB7.out.block (w1.heap.size) (by omega)).trans HBX.out)
                have HL7 := Lib.hid (HB.out.trans (HB7.out.mono (by omega)))
                have hv7 := HO7.out.one
                rw [HM1.out] at HO7
                clear hd1
                go_wp2_with fail
                clear HB HO HBX hv hCw HM HEE
                go_loopw [14, 82] (fun vv i wr => ∃ (j9 : Nat) (v : Value) (M : List Rf), v = vv ∧ i = .int .i64 (j9 : Int) ∧ j9 ≤ n ∧ M = (l.filter (fun a => lessR a (k, s, now)) ++ [(k, s, now)]) ++ (l.take j9).filter (fun a => lessR (k, s, now) a) ∧ OwX rfC 3 97 wr (w1.heap.size + 1) v M ∧ wr.heap[w1.heap.size]? = some (.cells #[.int .i64 k, .string s, .string now] 97 (0, 0)) ∧ Below w.heap.size w wr) (fun _ i _ => n - (intOf i).toNat)
                case atStart => exact ⟨0, v7, _, rfl, rfl, Nat.zero_le _, by rw [List.take_zero, List.filter_nil, List.append_nil], HO7.out, HX7.out, HL7.out⟩
                case round =>
                  obtain ⟨j9, v, M, rfl, rfl, hk, hM, how, hbx, hb⟩ := hrel
                  have HM := Lib.hid hM
                  have HO := Lib.hid how
                  have HBX := Lib.hid hbx
                  have HB := Lib.hid hb
                  have hv := how.one
                  have hCw := lt_of_block hbx
                  clear hM how hbx hb
                  by_cases hlt : j9 < n
                  · have hd1 : decide ((j9 : Int) < (n : Int)) = true := decide_eq_true (by omega)
                    obtain ⟨b, off, hl, rfl, hbb, _⟩ := (H.out.below HB.out).at hlt
                    have HFT := Lib.hid (filtR_take (fun a => lessR (k, s, now) a) l j9 hl)
                    have hfl := filtR_len (fun a => lessR (k, s, now) a) l j9
                    obtain ⟨y, hy⟩ : ∃ y, l[j9] = y := ⟨_, rfl⟩
                    have HX := Lib.hid (show l[j9]? = some y by rw [List.getElem?_eq_getElem hl, hy])
                    rw [hy] at HFT
                    obtain ⟨y1, y2, y3⟩ := y
                    have hi0 : (0 : Int) ≤ (j9 : Int) := by omega
                    clear hy
                    have HF := Lib.hid (fun W : World => rfless_any k s now y1 y2 y3 W)
                    cases hq : lessR (k, s, now) (y1, y2, y3) with
                    | true =>
                      rw [hq] at HF
                      have HR := Lib.hid (show M ++ [(y1, y2, y3)] = (l.filter (fun a => lessR a (k, s, now)) ++ [(k, s, now)]) ++ (l.take (j9 + 1)).filter (fun a => lessR (k, s, now) a) by rw [HFT.out, if_pos hq, ← List.append_assoc, HM.out])
                      have hML : M.length ≤ 200002 := by rw [HM.out]; simp only [List.length_append, List.length_cons, List.length_nil]; have := HFL.out; omega
                      clear hq
                      have hc101 : wr.cell? ⟨b, off + j9 * 3, none⟩ = some (.int .i64 y1) := (H.out.below HB.out).cellAt HX.out hlt 0 _ rfl
                      have hc102 : wr.cell? ⟨b, off + j9 * 3 + 1, none⟩ = some (.string y2) := (H.out.below HB.out).cellAt HX.out hlt 1 _ rfl
                      have hc103 : wr.cell? ⟨b, off + j9 * 3 + 2, none⟩ = some (.string y3) := (H.out.below HB.out).cellAt HX.out hlt 2 _ rfl
                      have HF104 := Lib.hid (blk_alloc HBX.out (.cells #[.int .i64 y1, .string y2, .string y3] 97 (0, 0)))
                      have HF105 := Lib.hid (blk_new wr (.cells #[.int .i64 y1, .string y2, .string y3] 97 (0, 0)))
                      have HB106 := Lib.hid (HB.out.alloc HB.out.size (.cells #[.int .i64 y1, .string y2, .string y3] 97 (0, 0)))
                      clear HB
                      have hc107 : (wr.alloc (.cells #[.int .i64 y1, .string y2, .string y3] 97 (0, 0))).cell? ⟨wr.heap.size, 0, none⟩ = some (.int .i64 y1) := by rw [cell_of_row _ _ _ _ _ _ HF105.out]; rfl
                      have hc108 : (wr.alloc (.cells #[.int .i64 y1, .string y2, .string y3] 97 (0, 0))).cell? ⟨wr.heap.size, 1, none⟩ = some (.string y2) := by rw [cell_of_row _ _ _ _ _ _ HF105.out]; rfl
                      have hc109 : (wr.alloc (.cells #[.int .i64 y1, .string y2, .string y3] 97 (0, 0))).cell? ⟨wr.heap.size, 2, none⟩ = some (.string y3) := by rw [cell_of_row _ _ _ _ _ _ HF105.out]; rfl
                      have hc110 : (wr.alloc (.cells #[.int .i64 y1, .string y2, .string y3] 97 (0, 0))).cell? ⟨w1.heap.size, 0, none⟩ = some (.int .i64 k) := by rw [cell_of_row _ _ _ _ _ _ HF104.out]; rfl
                      have hc111 : wr.cell? ⟨w1.heap.size, 0, none⟩ = some (.int .i64 k) := by rw [cell_of_row _ _ _ _ _ _ HBX.out]; rfl
                      have hc112 : (wr.alloc (.cells #[.int .i64 y1, .string y2, .string y3] 97 (0, 0))).cell? ⟨w1.heap.size, 1, none⟩ = some (.string s) := by rw [cell_of_row _ _ _ _ _ _ HF104.out]; rfl
                      have hc113 : wr.cell? ⟨w1.heap.size, 1, none⟩ = some (.string s) := by rw [cell_of_row _ _ _ _ _ _ HBX.out]; rfl
                      have hc114 : (wr.alloc (.cells #[.int .i64 y1, .string y2, .string y3] 97 (0, 0))).cell? ⟨w1.heap.size, 2, none⟩ = some (.string now) := by rw [cell_of_row _ _ _ _ _ _ HF104.out]; rfl
                      have hc115 : wr.cell? ⟨w1.heap.size, 2, none⟩ = some (.string now) := by rw [cell_of_row _ _ _ _ _ _ HBX.out]; rfl
                      have hl116 : w1.heap.size < wr.heap.size := lt_of_block HBX.out
                      have hl117 : ¬ w1.heap.size = wr.heap.size := by omega
                      have HO1 := Lib.hid (HO.out.alloc (.cells #[.int .i64 y1, .string y2, .string y3] 97 (0, 0)))
                      go_wp2_with fail
                      refine (HF.out (wr.alloc (.cells #[.int .i64 y1, .string y2, .string y3] 97 (0, 0)))).mono ?_
                      rintro e w11 ⟨rfl, hb11⟩
                      clear hc101 hc102 hc103 hc107 hc108 hc109 hc110 hc111 hc112 hc113 hc114 hc115 hl116 hl117
                      have HF118 := Lib.hid (blk_below HF104.out hb11)
                      have HF119 := Lib.hid (blk_below HF105.out hb11)
                      have HB120 := Lib.hid (HB106.out.trans (hb11.mono HB106.out.size))
                      have HQ121 := Lib.hid (HO1.out.laterR hb11)
                      clear HO1
                      clear hb11 HB106 HF104 HBX HF105
                      have hc122 : w11.cell? ⟨wr.heap.size, 0, none⟩ = some (.int .i64 y1) := by rw [cell_of_row _ _ _ _ _ _ HF119.out]; rfl
                      have hc123 : w11.cell? ⟨wr.heap.size, 1, none⟩ = some (.string y2) := by rw [cell_of_row _ _ _ _ _ _ HF119.out]; rfl
                      have hc124 : w11.cell? ⟨wr.heap.size, 2, none⟩ = some (.string y3) := by rw [cell_of_row _ _ _ _ _ _ HF119.out]; rfl
                      have hz1 : w1.heap.size + 1 ≤ w11.heap.size := by have := lt_of_block HF118.out; omega
                      have HRa := Lib.hid (Below.refl (w1.heap.size + 1) w11)
                      go_wp2_with (at_builtin; refine wpList_appX rfl (.tmp 89) (.tmp 91) 93 97 _ 40 rfl Try.underlying93 info_rfB rfl (by omega) (by omega) rfC_len rfC_one (w1.heap.size + 1) w11 (HRa.out.alloc hz1 _) (by simp; omega) v _ rfl (HQ121.out.alloc _) w11.heap.size 1 (y1, y2, y3) #[.int .i64 y1, .string y2, .string y3] 97 (0, 0) rfl (heap_alloc_new w11 _) rfl (by omega) ?_)
                      intro v7 w7 HO7 HB7 HZ7 HG7
                      clear hc122 hc123 hc124
                      have HX7 := Lib.hid ((HB7.out.block (w1.heap.size) (by omega)).trans HF118.out)
                      have HL7 := Lib.hid (HB120.out.trans (HB7.out.mono (by omega)))
                      have hv7 := HO7.out.one
                      go_wp2_with fail
                      go_roundw
                      case rel => exact ⟨j9 + 1, v7, _, rfl, by go_num, by omega, HR.out, HO7.out, HX7.out, HL7.out⟩
                      case measure => simp [intOf] <;> omega
                    | false =>
                      rw [hq] at HF
                      have HR := Lib.hid (show M = (l.filter (fun a => lessR a (k, s, now)) ++ [(k, s, now)]) ++ (l.take (j9 + 1)).filter (fun a => lessR (k, s, now) a) by rw [HFT.out, if_neg (by rw [hq]; simp), List.append_nil, HM.out])
                      clear hq
                      have hc101 : wr.cell? ⟨b, off + j9 * 3, none⟩ = some (.int .i64 y1) := (H.out.below HB.out).cellAt HX.out hlt 0 _ rfl
                      have hc102 : wr.cell? ⟨b, off + j9 * 3 + 1, none⟩ = some (.string y2) := (H.out.below HB.out).cellAt HX.out hlt 1 _ rfl
                      have hc103 : wr.cell? ⟨b, off + j9 * 3 + 2, none⟩ = some (.string y3) := (H.out.below HB.out).cellAt HX.out hlt 2 _ rfl
                      have HF104 := Lib.hid (blk_alloc HBX.out (.cells #[.int .i64 y1, .string y2, .string y3] 97 (0, 0)))
                      have HF105 := Lib.hid (blk_new wr (.cells #[.int .i64 y1, .string y2, .string y3] 97 (0, 0)))
                      have HB106 := Lib.hid (HB.out.alloc HB.out.size (.cells #[.int .i64 y1, .string y2, .string y3] 97 (0, 0)))
                      clear HB
                      have hc107 : (wr.alloc (.cells #[.int .i64 y1, .string y2, .string y3] 97 (0, 0))).cell? ⟨wr.heap.size, 0, none⟩ = some (.int .i64 y1) := by rw [cell_of_row _ _ _ _ _ _ HF105.out]; rfl
                      have hc108 : (wr.alloc (.cells #[.int .i64 y1, .string y2, .string y3] 97 (0, 0))).cell? ⟨wr.heap.size, 1, none⟩ = some (.string y2) := by rw [cell_of_row _ _ _ _ _ _ HF105.out]; rfl
                      have hc109 : (wr.alloc (.cells #[.int .i64 y1, .string y2, .string y3] 97 (0, 0))).cell? ⟨wr.heap.size, 2, none⟩ = some (.string y3) := by rw [cell_of_row _ _ _ _ _ _ HF105.out]; rfl
                      have hc110 : (wr.alloc (.cells #[.int .i64 y1, .string y2, .string y3] 97 (0, 0))).cell? ⟨w1.heap.size, 0, none⟩ = some (.int .i64 k) := by rw [cell_of_row _ _ _ _ _ _ HF104.out]; rfl
                      have hc111 : wr.cell? ⟨w1.heap.size, 0, none⟩ = some (.int .i64 k) := by rw [cell_of_row _ _ _ _ _ _ HBX.out]; rfl
                      have hc112 : (wr.alloc (.cells #[.int .i64 y1, .string y2, .string y3] 97 (0, 0))).cell? ⟨w1.heap.size, 1, none⟩ = some (.string s) := by rw [cell_of_row _ _ _ _ _ _ HF104.out]; rfl
                      have hc113 : wr.cell? ⟨w1.heap.size, 1, none⟩ = some (.string s) := by rw [cell_of_row _ _ _ _ _ _ HBX.out]; rfl
                      have hc114 : (wr.alloc (.cells #[.int .i64 y1, .string y2, .string y3] 97 (0, 0))).cell? ⟨w1.heap.size, 2, none⟩ = some (.string now) := by rw [cell_of_row _ _ _ _ _ _ HF104.out]; rfl
                      have hc115 : wr.cell? ⟨w1.heap.size, 2, none⟩ = some (.string now) := by rw [cell_of_row _ _ _ _ _ _ HBX.out]; rfl
                      have hl116 : w1.heap.size < wr.heap.size := lt_of_block HBX.out
                      have hl117 : ¬ w1.heap.size = wr.heap.size := by omega
                      have HO1 := Lib.hid (HO.out.alloc (.cells #[.int .i64 y1, .string y2, .string y3] 97 (0, 0)))
                      go_wp2_with fail
                      refine (HF.out (wr.alloc (.cells #[.int .i64 y1, .string y2, .string y3] 97 (0, 0)))).mono ?_
                      rintro e w11 ⟨rfl, hb11⟩
                      clear hc101 hc102 hc103 hc107 hc108 hc109 hc110 hc111 hc112 hc113 hc114 hc115 hl116 hl117
                      have HF118 := Lib.hid (blk_below HF104.out hb11)
                      have HF119 := Lib.hid (blk_below HF105.out hb11)
                      have HB120 := Lib.hid (HB106.out.trans (hb11.mono HB106.out.size))
                      have HQ121 := Lib.hid (HO1.out.laterR hb11)
                      clear HO1
                      clear hb11 HB106 HF104 HBX HF105
                      go_wp2_with fail
                      go_roundw
                      case rel => exact ⟨j9 + 1, v, M, rfl, by go_num, by omega, HR.out, HQ121.out, HF118.out, HB120.out⟩
                      case measure => simp [intOf] <;> omega
                  · have hd1 : decide ((j9 : Int) < (n : Int)) = false := decide_eq_false (by omega)
                    have HEE := Lib.hid (show l.take j9 = l from List.take_of_length_le (by rw [L.out]; omega))
                    go_wp2_with fail
                    go_ret2
                    refine ⟨v, by first | (rw [HV.out.1]; done) | (rw [HV.out.1]; rfl), ?_, HB.out⟩
                    rw [HV.out.2]
                    have k9 := HO.out
                    rw [HM.out, HEE.out] at k9
                    exact RV.own k9
    | false =>
      have ho2 : emB old = false := ho
      cases heq : (m.toList == old.toList) with
      | false =>
        cases hi : m.toList.isEmpty with
        | true =>
          have hi2 : emB m = true := hi
          have HV := Lib.hid (st_bad (HE.out.trans (by rw [if_neg (by rw [HOK.out]; simp), if_neg (fun q => by rw [ho2] at q; cases q.1), if_pos heq, if_neg (by rw [ho2]; simp), if_pos hi2])) (by decide))
          clear ho2 hi2
          clear HE HSL HSV
          have HB1 := Lib.hid (Below.refl w.heap.size w)
          go_enter Try.func61, Try.ntmps61
          go_wp2_with fail
          refine (HIN.out w).mono ?_
          rintro e w' ⟨rfl, rfl⟩
          go_wp2_with fail
          refine (HG.out w (H.out.below HB1.out)).mono ?_
          rintro e w1 ⟨rfl, hb1⟩
          have HB2 := Lib.hid (HB1.out.trans (hb1.mono HB1.out.size))
          clear hb1 HB1 
          go_wp2_with fail
          go_ret2
          exact ⟨_, by first | (rw [HV.out.1]; done) | (rw [HV.out.1]; rfl), by rw [HV.out.2]; exact RV.nil _, HB2.out⟩
        | false =>
          have hi2 : emB m = false := hi
          have HV := Lib.hid (st_bad (HE.out.trans (by rw [if_neg (by rw [HOK.out]; simp), if_neg (fun q => by rw [ho2] at q; cases q.1), if_pos heq, if_neg (by rw [ho2]; simp), if_neg (by rw [hi2]; simp)])) (by decide))
          clear ho2 hi2
          clear HE HSL HSV
          have HB1 := Lib.hid (Below.refl w.heap.size w)
          go_enter Try.func61, Try.ntmps61
          go_wp2_with fail
          refine (HIN.out w).mono ?_
          rintro e w' ⟨rfl, rfl⟩
          go_wp2_with fail
          refine (HG.out w (H.out.below HB1.out)).mono ?_
          rintro e w1 ⟨rfl, hb1⟩
          have HB2 := Lib.hid (HB1.out.trans (hb1.mono HB1.out.size))
          clear hb1 HB1 
          go_wp2_with fail
          go_ret2
          exact ⟨_, by first | (rw [HV.out.1]; done) | (rw [HV.out.1]; rfl), by rw [HV.out.2]; exact RV.nil _, HB2.out⟩
      | true =>
        have hz : stE l k s old now = 0 := HE.out.trans (by rw [if_neg (by rw [HOK.out]; simp), if_neg (fun q => by rw [ho2] at q; cases q.1), if_neg (by rw [heq]; simp), if_neg (fun q => by rw [ho2] at q; cases q.1)])
        cases hw : now.toList.isEmpty with
        | true =>
          have hw2 : emB now = true := hw
          have HV := Lib.hid (show stE l k s old now = 0 ∧ stV l k s old now = l.filter (fun a => lessR a (k, s, now)) ++ l.filter (fun a => lessR (k, s, now) a) from ⟨hz, by rw [HSV.out hz, HSL.out, if_pos hw2, List.append_nil]⟩)
          clear ho2 hw2 hz
          clear HE HSL HSV
          have HB1 := Lib.hid (Below.refl w.heap.size w)
          go_enter Try.func61, Try.ntmps61
          go_wp2_with fail
          refine (HIN.out w).mono ?_
          rintro e w' ⟨rfl, rfl⟩
          go_wp2_with fail
          refine (HG.out w (H.out.below HB1.out)).mono ?_
          rintro e w1 ⟨rfl, hb1⟩
          have HB2 := Lib.hid (HB1.out.trans (hb1.mono HB1.out.size))
          clear hb1 HB1 
          have hw1 : w.heap.size ≤ w1.heap.size := HB2.out.size
          have HF3 := Lib.hid (blk_new w1 (.cells #[.int .i64 k, .string s, .string now] 97 (0, 0)))
          have HB4 := Lib.hid (HB2.out.alloc HB2.out.size (.cells #[.int .i64 k, .string s, .string now] 97 (0, 0)))
          clear HB2
          go_wp2_with fail
          go_loopw [14, 62] (fun vv i wr => ∃ (k9 : Nat) (v : Value) (M : List Rf), v = vv ∧ i = .int .i64 (k9 : Int) ∧ k9 ≤ n ∧ M = (l.take k9).filter (fun a => lessR a (k, s, now)) ∧ OwX rfC 3 97 wr (w1.heap.size + 1) v M ∧ wr.heap[w1.heap.size]? = some (.cells #[.int .i64 k, .string s, .string now] 97 (0, 0)) ∧ Below w.heap.size w wr) (fun _ i _ => n - (intOf i).toNat)
          case atStart => exact ⟨0, _, [], rfl, rfl, Nat.zero_le _, rfl, OwX.nil _, HF3.out, HB4.out⟩
          case round =>
            obtain ⟨k9, v, M, rfl, rfl, hk, hM, how, hbx, hb⟩ := hrel
            have HM := Lib.hid hM
            have HO := Lib.hid how
            have HBX := Lib.hid hbx
            have HB := Lib.hid hb
            have hv := how.one
            have hCw := lt_of_block hbx
            clear hM how hbx hb
            by_cases hlt : k9 < n
            · have hd1 : decide ((k9 : Int) < (n : Int)) = true := decide_eq_true (by omega)
              obtain ⟨b, off, hl, rfl, hbb, _⟩ := (H.out.below HB.out).at hlt
              have HFT := Lib.hid (filtR_take (fun a => lessR a (k, s, now)) l k9 hl)
              have hfl := filtR_len (fun a => lessR a (k, s, now)) l k9
              obtain ⟨y, hy⟩ : ∃ y, l[k9] = y := ⟨_, rfl⟩
              have HX := Lib.hid (show l[k9]? = some y by rw [List.getElem?_eq_getElem hl, hy])
              rw [hy] at HFT
              obtain ⟨y1, y2, y3⟩ := y
              have hi0 : (0 : Int) ≤ (k9 : Int) := by omega
              clear hy
              have HF := Lib.hid (fun W : World => rfless_any y1 y2 y3 k s now W)
              cases hq : lessR (y1, y2, y3) (k, s, now) with
              | true =>
                rw [hq] at HF
                have HR := Lib.hid (show M ++ [(y1, y2, y3)] = (l.take (k9 + 1)).filter (fun a => lessR a (k, s, now)) by rw [HFT.out, if_pos hq, HM.out])
                have hML : M.length ≤ 200002 := by rw [HM.out]; omega
                clear hq
                have hc101 : wr.cell? ⟨b, off + k9 * 3, none⟩ = some (.int .i64 y1) := (H.out.below HB.out).cellAt HX.out hlt 0 _ rfl
                have hc102 : wr.cell? ⟨b, off + k9 * 3 + 1, none⟩ = some (.string y2) := (H.out.below HB.out).cellAt HX.out hlt 1 _ rfl
                have hc103 : wr.cell? ⟨b, off + k9 * 3 + 2, none⟩ = some (.string y3) := (H.out.below HB.out).cellAt HX.out hlt 2 _ rfl
                have HF104 := Lib.hid (blk_alloc HBX.out (.cells #[.int .i64 y1, .string y2, .string y3] 97 (0, 0)))
                have HF105 := Lib.hid (blk_new wr (.cells #[.int .i64 y1, .string y2, .string y3] 97 (0, 0)))
                have HB106 := Lib.hid (HB.out.alloc HB.out.size (.cells #[.int .i64 y1, .string y2, .string y3] 97 (0, 0)))
                clear HB
                have hc107 : (wr.alloc (.cells #[.int .i64 y1, .string y2, .string y3] 97 (0, 0))).cell? ⟨wr.heap.size, 0, none⟩ = some (.int .i64 y1) := by rw [cell_of_row _ _ _ _ _ _ HF105.out]; rfl
                have hc108 : (wr.alloc (.cells #[.int .i64 y1, .string y2, .string y3] 97 (0, 0))).cell? ⟨wr.heap.size, 1, none⟩ = some (.string y2) := by rw [cell_of_row _ _ _ _ _ _ HF105.out]; rfl
                have hc109 : (wr.alloc (.cells #[.int .i64 y1, .string y2, .string y3] 97 (0, 0))).cell? ⟨wr.heap.size, 2, none⟩ = some (.string y3) := by rw [cell_of_row _ _ _ _ _ _ HF105.out]; rfl
                have hc110 : (wr.alloc (.cells #[.int .i64 y1, .string y2, .string y3] 97 (0, 0))).cell? ⟨w1.heap.size, 0, none⟩ = some (.int .i64 k) := by rw [cell_of_row _ _ _ _ _ _ HF104.out]; rfl
                have hc111 : wr.cell? ⟨w1.heap.size, 0, none⟩ = some (.int .i64 k) := by rw [cell_of_row _ _ _ _ _ _ HBX.out]; rfl
                have hc112 : (wr.alloc (.cells #[.int .i64 y1, .string y2, .string y3] 97 (0, 0))).cell? ⟨w1.heap.size, 1, none⟩ = some (.string s) := by rw [cell_of_row _ _ _ _ _ _ HF104.out]; rfl
                have hc113 : wr.cell? ⟨w1.heap.size, 1, none⟩ = some (.string s) := by rw [cell_of_row _ _ _ _ _ _ HBX.out]; rfl
                have hc114 : (wr.alloc (.cells #[.int .i64 y1, .string y2, .string y3] 97 (0, 0))).cell? ⟨w1.heap.size, 2, none⟩ = some (.string now) := by rw [cell_of_row _ _ _ _ _ _ HF104.out]; rfl
                have hc115 : wr.cell? ⟨w1.heap.size, 2, none⟩ = some (.string now) := by rw [cell_of_row _ _ _ _ _ _ HBX.out]; rfl
                have hl116 : w1.heap.size < wr.heap.size := lt_of_block HBX.out
                have hl117 : ¬ w1.heap.size = wr.heap.size := by omega
                have HO1 := Lib.hid (HO.out.alloc (.cells #[.int .i64 y1, .string y2, .string y3] 97 (0, 0)))
                go_wp2_with fail
                refine (HF.out (wr.alloc (.cells #[.int .i64 y1, .string y2, .string y3] 97 (0, 0)))).mono ?_
                rintro e w11 ⟨rfl, hb11⟩
                clear hc101 hc102 hc103 hc107 hc108 hc109 hc110 hc111 hc112 hc113 hc114 hc115 hl116 hl117
                have HF118 := Lib.hid (blk_below HF104.out hb11)
                have HF119 := Lib.hid (blk_below HF105.out hb11)
                have HB120 := Lib.hid (HB106.out.trans (hb11.mono HB106.out.size))
                have HQ121 := Lib.hid (HO1.out.laterR hb11)
                clear HO1
                clear hb11 HB106 HF104 HBX HF105
                have hc122 : w11.cell? ⟨wr.heap.size, 0, none⟩ = some (.int .i64 y1) := by rw [cell_of_row _ _ _ _ _ _ HF119.out]; rfl
                have hc123 : w11.cell? ⟨wr.heap.size, 1, none⟩ = some (.string y2) := by rw [cell_of_row _ _ _ _ _ _ HF119.out]; rfl
                have hc124 : w11.cell? ⟨wr.heap.size, 2, none⟩ = some (.string y3) := by rw [cell_of_row _ _ _ _ _ _ HF119.out]; rfl
                have hz1 : w1.heap.size + 1 ≤ w11.heap.size := by have := lt_of_block HF118.out; omega
                have HRa := Lib.hid (Below.refl (w1.heap.size + 1) w11)
                go_wp2_with (at_builtin; refine wpList_appX rfl (.tmp 69) (.tmp 71) 93 97 _ 40 rfl Try.underlying93 info_rfB rfl (by omega) (by omega) rfC_len rfC_one (w1.heap.size + 1) w11 (HRa.out.alloc hz1 _) (by simp; omega) v _ rfl (HQ121.out.alloc _) w11.heap.size 1 (y1, y2, y3) #[.int .i64 y1, .string y2, .string y3] 97 (0, 0) rfl (heap_alloc_new w11 _) rfl (by omega) ?_)
                intro v7 w7 HO7 HB7 HZ7 HG7
                clear hc122 hc123 hc124
                have HX7 := Lib.hid ((HB7.out.block (w1.heap.size) (by omega)).trans HF118.out)
                have HL7 := Lib.hid (HB120.out.trans (HB7.out.mono (by omega)))
                have hv7 := HO7.out.one
                go_wp2_with fail
                go_roundw
                case rel => exact ⟨k9 + 1, v7, _, rfl, by go_num, by omega, HR.out, HO7.out, HX7.out, HL7.out⟩
                case measure => simp [intOf] <;> omega
              | false =>
                rw [hq] at HF
                have HR := Lib.hid (show M = (l.take (k9 + 1)).filter (fun a => lessR a (k, s, now)) by rw [HFT.out, if_neg (by rw [hq]; simp), List.append_nil, HM.out])
                clear hq
                have hc101 : wr.cell? ⟨b, off + k9 * 3, none⟩ = some (.int .i64 y1) := (H.out.below HB.out).cellAt HX.out hlt 0 _ rfl
                have hc102 : wr.cell? ⟨b, off + k9 * 3 + 1, none⟩ = some (.string y2) := (H.out.below HB.out).cellAt HX.out hlt 1 _ rfl
                have hc103 : wr.cell? ⟨b, off + k9 * 3 + 2, none⟩ = some (.string y3) := (H.out.below HB.out).cellAt HX.out hlt 2 _ rfl
                have HF104 := Lib.hid (blk_alloc HBX.out (.cells #[.int .i64 y1, .string y2, .string y3] 97 (0, 0)))
                have HF105 := Lib.hid (blk_new wr (.cells #[.int .i64 y1, .string y2, .string y3] 97 (0, 0)))
                have HB106 := Lib.hid (HB.out.alloc HB.out.size (.cells #[.int .i64 y1, .string y2, .string y3] 97 (0, 0)))
                clear HB
                have hc107 : (wr.alloc (.cells #[.int .i64 y1, .string y2, .string y3] 97 (0, 0))).cell? ⟨wr.heap.size, 0, none⟩ = some (.int .i64 y1) := by rw [cell_of_row _ _ _ _ _ _ HF105.out]; rfl
                have hc108 : (wr.alloc (.cells #[.int .i64 y1, .string y2, .string y3] 97 (0, 0))).cell? ⟨wr.heap.size, 1, none⟩ = some (.string y2) := by rw [cell_of_row _ _ _ _ _ _ HF105.out]; rfl
                have hc109 : (wr.alloc (.cells #[.int .i64 y1, .string y2, .string y3] 97 (0, 0))).cell? ⟨wr.heap.size, 2, none⟩ = some (.string y3) := by rw [cell_of_row _ _ _ _ _ _ HF105.out]; rfl
                have hc110 : (wr.alloc (.cells #[.int .i64 y1, .string y2, .string y3] 97 (0, 0))).cell? ⟨w1.heap.size, 0, none⟩ = some (.int .i64 k) := by rw [cell_of_row _ _ _ _ _ _ HF104.out]; rfl
                have hc111 : wr.cell? ⟨w1.heap.size, 0, none⟩ = some (.int .i64 k) := by rw [cell_of_row _ _ _ _ _ _ HBX.out]; rfl
                have hc112 : (wr.alloc (.cells #[.int .i64 y1, .string y2, .string y3] 97 (0, 0))).cell? ⟨w1.heap.size, 1, none⟩ = some (.string s) := by rw [cell_of_row _ _ _ _ _ _ HF104.out]; rfl
                have hc113 : wr.cell? ⟨w1.heap.size, 1, none⟩ = some (.string s) := by rw [cell_of_row _ _ _ _ _ _ HBX.out]; rfl
                have hc114 : (wr.alloc (.cells #[.int .i64 y1, .string y2, .string y3] 97 (0, 0))).cell? ⟨w1.heap.size, 2, none⟩ = some (.string now) := by rw [cell_of_row _ _ _ _ _ _ HF104.out]; rfl
                have hc115 : wr.cell? ⟨w1.heap.size, 2, none⟩ = some (.string now) := by rw [cell_of_row _ _ _ _ _ _ HBX.out]; rfl
                have hl116 : w1.heap.size < wr.heap.size := lt_of_block HBX.out
                have hl117 : ¬ w1.heap.size = wr.heap.size := by omega
                have HO1 := Lib.hid (HO.out.alloc (.cells #[.int .i64 y1, .string y2, .string y3] 97 (0, 0)))
                go_wp2_with fail
                refine (HF.out (wr.alloc (.cells #[.int .i64 y1, .string y2, .string y3] 97 (0, 0)))).mono ?_
                rintro e w11 ⟨rfl, hb11⟩
                clear hc101 hc102 hc103 hc107 hc108 hc109 hc110 hc111 hc112 hc113 hc114 hc115 hl116 hl117
                have HF118 := Lib.hid (blk_below HF104.out hb11)
                have HF119 := Lib.hid (blk_below HF105.out hb11)
                have HB120 := Lib.hid (HB106.out.trans (hb11.mono HB106.out.size))
                have HQ121 := Lib.hid (HO1.out.laterR hb11)
                clear HO1
                clear hb11 HB106 HF104 HBX HF105
                go_wp2_with fail
                go_roundw
                case rel => exact ⟨k9 + 1, v, M, rfl, by go_num, by omega, HR.out, HQ121.out, HF118.out, HB120.out⟩
                case measure => simp [intOf] <;> omega
            · have hd1 : decide ((k9 : Int) < (n : Int)) = false := decide_eq_false (by omega)
              have HEE := Lib.hid (show l.take k9 = l from List.take_of_length_le (by rw [L.out]; omega))
              have HM1 := Lib.hid (show M = l.filter (fun a => lessR a (k, s, now)) by rw [HM.out, HEE.out])
              have HFL := Lib.hid (show (l.filter (fun a => lessR a (k, s, now))).length ≤ 100000 by have := List.length_filter_le (fun a => lessR a (k, s, now)) l; have := L.out; omega)
              rw [HM1.out] at HO
              have HO7 := HO
              have HX7 := HBX
              have HL7 := HB
              obtain ⟨v7, hv7e⟩ : ∃ v7, v7 = v := ⟨_, rfl⟩
              subst hv7e
              have hv7 := hv
              go_wp2_with fail
              clear hd1
              clear HB HO HBX hv hCw HM HEE
              go_loopw [14, 82] (fun vv i wr => ∃ (j9 : Nat) (v : Value) (M : List Rf), v = vv ∧ i = .int .i64 (j9 : Int) ∧ j9 ≤ n ∧ M = l.filter (fun a => lessR a (k, s, now)) ++ (l.take j9).filter (fun a => lessR (k, s, now) a) ∧ OwX rfC 3 97 wr (w1.heap.size + 1) v M ∧ wr.heap[w1.heap.size]? = some (.cells #[.int .i64 k, .string s, .string now] 97 (0, 0)) ∧ Below w.heap.size w wr) (fun _ i _ => n - (intOf i).toNat)
              case atStart => exact ⟨0, v7, _, rfl, rfl, Nat.zero_le _, by rw [List.take_zero, List.filter_nil, List.append_nil], HO7.out, HX7.out, HL7.out⟩
              case round =>
                obtain ⟨j9, v, M, rfl, rfl, hk, hM, how, hbx, hb⟩ := hrel
                have HM := Lib.hid hM
                have HO := Lib.hid how
                have HBX := Lib.hid hbx
                have HB := Lib.hid hb
                have hv := how.one
                have hCw := lt_of_block hbx
                clear hM how hbx hb
                by_cases hlt : j9 < n
                · have hd1 : decide ((j9 : Int) < (n : Int)) = true := decide_eq_true (by omega)
                  obtain ⟨b, off, hl, rfl, hbb, _⟩ := (H.out.below HB.out).at hlt
                  have HFT := Lib.hid (filtR_take (fun a => lessR (k, s, now) a) l j9 hl)
                  have hfl := filtR_len (fun a => lessR (k, s, now) a) l j9
                  obtain ⟨y, hy⟩ : ∃ y, l[j9] = y := ⟨_, rfl⟩
                  have HX := Lib.hid (show l[j9]? = some y by rw [List.getElem?_eq_getElem hl, hy])
                  rw [hy] at HFT
                  obtain ⟨y1, y2, y3⟩ := y
                  have hi0 : (0 : Int) ≤ (j9 : Int) := by omega
                  clear hy
                  have HF := Lib.hid (fun W : World => rfless_any k s now y1 y2 y3 W)
                  cases hq : lessR (k, s, now) (y1, y2, y3) with
                  | true =>
                    rw [hq] at HF
                    have HR := Lib.hid (show M ++ [(y1, y2, y3)] = l.filter (fun a => lessR a (k, s, now)) ++ (l.take (j9 + 1)).filter (fun a => lessR (k, s, now) a) by rw [HFT.out, if_pos hq, ← List.append_assoc, HM.out])
                    have hML : M.length ≤ 200002 := by rw [HM.out]; simp only [List.length_append]; have := HFL.out; omega
                    clear hq
                    have hc101 : wr.cell? ⟨b, off + j9 * 3, none⟩ = some (.int .i64 y1) := (H.out.below HB.out).cellAt HX.out hlt 0 _ rfl
                    have hc102 : wr.cell? ⟨b, off + j9 * 3 + 1, none⟩ = some (.string y2) := (H.out.below HB.out).cellAt HX.out hlt 1 _ rfl
                    have hc103 : wr.cell? ⟨b, off + j9 * 3 + 2, none⟩ = some (.string y3) := (H.out.below HB.out).cellAt HX.out hlt 2 _ rfl
                    have HF104 := Lib.hid (blk_alloc HBX.out (.cells #[.int .i64 y1, .string y2, .string y3] 97 (0, 0)))
                    have HF105 := Lib.hid (blk_new wr (.cells #[.int .i64 y1, .string y2, .string y3] 97 (0, 0)))
                    have HB106 := Lib.hid (HB.out.alloc HB.out.size (.cells #[.int .i64 y1, .string y2, .string y3] 97 (0, 0)))
                    clear HB
                    have hc107 : (wr.alloc (.cells #[.int .i64 y1, .string y2, .string y3] 97 (0, 0))).cell? ⟨wr.heap.size, 0, none⟩ = some (.int .i64 y1) := by rw [cell_of_row _ _ _ _ _ _ HF105.out]; rfl
                    have hc108 : (wr.alloc (.cells #[.int .i64 y1, .string y2, .string y3] 97 (0, 0))).cell? ⟨wr.heap.size, 1, none⟩ = some (.string y2) := by rw [cell_of_row _ _ _ _ _ _ HF105.out]; rfl
                    have hc109 : (wr.alloc (.cells #[.int .i64 y1, .string y2, .string y3] 97 (0, 0))).cell? ⟨wr.heap.size, 2, none⟩ = some (.string y3) := by rw [cell_of_row _ _ _ _ _ _ HF105.out]; rfl
                    have hc110 : (wr.alloc (.cells #[.int .i64 y1, .string y2, .string y3] 97 (0, 0))).cell? ⟨w1.heap.size, 0, none⟩ = some (.int .i64 k) := by rw [cell_of_row _ _ _ _ _ _ HF104.out]; rfl
                    have hc111 : wr.cell? ⟨w1.heap.size, 0, none⟩ = some (.int .i64 k) := by rw [cell_of_row _ _ _ _ _ _ HBX.out]; rfl
                    have hc112 : (wr.alloc (.cells #[.int .i64 y1, .string y2, .string y3] 97 (0, 0))).cell? ⟨w1.heap.size, 1, none⟩ = some (.string s) := by rw [cell_of_row _ _ _ _ _ _ HF104.out]; rfl
                    have hc113 : wr.cell? ⟨w1.heap.size, 1, none⟩ = some (.string s) := by rw [cell_of_row _ _ _ _ _ _ HBX.out]; rfl
                    have hc114 : (wr.alloc (.cells #[.int .i64 y1, .string y2, .string y3] 97 (0, 0))).cell? ⟨w1.heap.size, 2, none⟩ = some (.string now) := by rw [cell_of_row _ _ _ _ _ _ HF104.out]; rfl
                    have hc115 : wr.cell? ⟨w1.heap.size, 2, none⟩ = some (.string now) := by rw [cell_of_row _ _ _ _ _ _ HBX.out]; rfl
                    have hl116 : w1.heap.size < wr.heap.size := lt_of_block HBX.out
                    have hl117 : ¬ w1.heap.size = wr.heap.size := by omega
                    have HO1 := Lib.hid (HO.out.alloc (.cells #[.int .i64 y1, .string y2, .string y3] 97 (0, 0)))
                    go_wp2_with fail
                    refine (HF.out (wr.alloc (.cells #[.int .i64 y1, .string y2, .string y3] 97 (0, 0)))).mono ?_
                    rintro e w11 ⟨rfl, hb11⟩
                    clear hc101 hc102 hc103 hc107 hc108 hc109 hc110 hc111 hc112 hc113 hc114 hc115 hl116 hl117
                    have HF118 := Lib.hid (blk_below HF104.out hb11)
                    have HF119 := Lib.hid (blk_below HF105.out hb11)
                    have HB120 := Lib.hid (HB106.out.trans (hb11.mono HB106.out.size))
                    have HQ121 := Lib.hid (HO1.out.laterR hb11)
                    clear HO1
                    clear hb11 HB106 HF104 HBX HF105
                    have hc122 : w11.cell? ⟨wr.heap.size, 0, none⟩ = some (.int .i64 y1) := by rw [cell_of_row _ _ _ _ _ _ HF119.out]; rfl
                    have hc123 : w11.cell? ⟨wr.heap.size, 1, none⟩ = some (.string y2) := by rw [cell_of_row _ _ _ _ _ _ HF119.out]; rfl
                    have hc124 : w11.cell? ⟨wr.heap.size, 2, none⟩ = some (.string y3) := by rw [cell_of_row _ _ _ _ _ _ HF119.out]; rfl
                    have hz1 : w1.heap.size + 1 ≤ w11.heap.size := by have := lt_of_block HF118.out; omega
                    have HRa := Lib.hid (Below.refl (w1.heap.size + 1) w11)
                    go_wp2_with (at_builtin; refine wpList_appX rfl (.tmp 89) (.tmp 91) 93 97 _ 40 rfl Try.underlying93 info_rfB rfl (by omega) (by omega) rfC_len rfC_one (w1.heap.size + 1) w11 (HRa.out.alloc hz1 _) (by simp; omega) v _ rfl (HQ121.out.alloc _) w11.heap.size 1 (y1, y2, y3) #[.int .i64 y1, .string y2, .string y3] 97 (0, 0) rfl (heap_alloc_new w11 _) rfl (by omega) ?_)
                    intro v7 w7 HO7 HB7 HZ7 HG7
                    clear hc122 hc123 hc124
                    have HX7 := Lib.hid ((HB7.out.block (w1.heap.size) (by omega)).trans HF118.out)
                    have HL7 := Lib.hid (HB120.out.trans (HB7.out.mono (by omega)))
                    have hv7 := HO7.out.one
                    go_wp2_with fail
                    go_roundw
                    case rel => exact ⟨j9 + 1, v7, _, rfl, by go_num, by omega, HR.out, HO7.out, HX7.out, HL7.out⟩
                    case measure => simp [intOf] <;> omega
                  | false =>
                    rw [hq] at HF
                    have HR := Lib.hid (show M = l.filter (fun a => lessR a (k, s, now)) ++ (l.take (j9 + 1)).filter (fun a => lessR (k, s, now) a) by rw [HFT.out, if_neg (by rw [hq]; simp), List.append_nil, HM.out])
                    clear hq
                    have hc101 : wr.cell? ⟨b, off + j9 * 3, none⟩ = some (.int .i64 y1) := (H.out.below HB.out).cellAt HX.out hlt 0 _ rfl
                    have hc102 : wr.cell? ⟨b, off + j9 * 3 + 1, none⟩ = some (.string y2) := (H.out.below HB.out).cellAt HX.out hlt 1 _ rfl
                    have hc103 : wr.cell? ⟨b, off + j9 * 3 + 2, none⟩ = some (.string y3) := (H.out.below HB.out).cellAt HX.out hlt 2 _ rfl
                    have HF104 := Lib.hid (blk_alloc HBX.out (.cells #[.int .i64 y1, .string y2, .string y3] 97 (0, 0)))
                    have HF105 := Lib.hid (blk_new wr (.cells #[.int .i64 y1, .string y2, .string y3] 97 (0, 0)))
                    have HB106 := Lib.hid (HB.out.alloc HB.out.size (.cells #[.int .i64 y1, .string y2, .string y3] 97 (0, 0)))
                    clear HB
                    have hc107 : (wr.alloc (.cells #[.int .i64 y1, .string y2, .string y3] 97 (0, 0))).cell? ⟨wr.heap.size, 0, none⟩ = some (.int .i64 y1) := by rw [cell_of_row _ _ _ _ _ _ HF105.out]; rfl
                    have hc108 : (wr.alloc (.cells #[.int .i64 y1, .string y2, .string y3] 97 (0, 0))).cell? ⟨wr.heap.size, 1, none⟩ = some (.string y2) := by rw [cell_of_row _ _ _ _ _ _ HF105.out]; rfl
                    have hc109 : (wr.alloc (.cells #[.int .i64 y1, .string y2, .string y3] 97 (0, 0))).cell? ⟨wr.heap.size, 2, none⟩ = some (.string y3) := by rw [cell_of_row _ _ _ _ _ _ HF105.out]; rfl
                    have hc110 : (wr.alloc (.cells #[.int .i64 y1, .string y2, .string y3] 97 (0, 0))).cell? ⟨w1.heap.size, 0, none⟩ = some (.int .i64 k) := by rw [cell_of_row _ _ _ _ _ _ HF104.out]; rfl
                    have hc111 : wr.cell? ⟨w1.heap.size, 0, none⟩ = some (.int .i64 k) := by rw [cell_of_row _ _ _ _ _ _ HBX.out]; rfl
                    have hc112 : (wr.alloc (.cells #[.int .i64 y1, .string y2, .string y3] 97 (0, 0))).cell? ⟨w1.heap.size, 1, none⟩ = some (.string s) := by rw [cell_of_row _ _ _ _ _ _ HF104.out]; rfl
                    have hc113 : wr.cell? ⟨w1.heap.size, 1, none⟩ = some (.string s) := by rw [cell_of_row _ _ _ _ _ _ HBX.out]; rfl
                    have hc114 : (wr.alloc (.cells #[.int .i64 y1, .string y2, .string y3] 97 (0, 0))).cell? ⟨w1.heap.size, 2, none⟩ = some (.string now) := by rw [cell_of_row _ _ _ _ _ _ HF104.out]; rfl
                    have hc115 : wr.cell? ⟨w1.heap.size, 2, none⟩ = some (.string now) := by rw [cell_of_row _ _ _ _ _ _ HBX.out]; rfl
                    have hl116 : w1.heap.size < wr.heap.size := lt_of_block HBX.out
                    have hl117 : ¬ w1.heap.size = wr.heap.size := by omega
                    have HO1 := Lib.hid (HO.out.alloc (.cells #[.int .i64 y1, .string y2, .string y3] 97 (0, 0)))
                    go_wp2_with fail
                    refine (HF.out (wr.alloc (.cells #[.int .i64 y1, .string y2, .string y3] 97 (0, 0)))).mono ?_
                    rintro e w11 ⟨rfl, hb11⟩
                    clear hc101 hc102 hc103 hc107 hc108 hc109 hc110 hc111 hc112 hc113 hc114 hc115 hl116 hl117
                    have HF118 := Lib.hid (blk_below HF104.out hb11)
                    have HF119 := Lib.hid (blk_below HF105.out hb11)
                    have HB120 := Lib.hid (HB106.out.trans (hb11.mono HB106.out.size))
                    have HQ121 := Lib.hid (HO1.out.laterR hb11)
                    clear HO1
                    clear hb11 HB106 HF104 HBX HF105
                    go_wp2_with fail
                    go_roundw
                    case rel => exact ⟨j9 + 1, v, M, rfl, by go_num, by omega, HR.out, HQ121.out, HF118.out, HB120.out⟩
                    case measure => simp [intOf] <;> omega
                · have hd1 : decide ((j9 : Int) < (n : Int)) = false := decide_eq_false (by omega)
                  have HEE := Lib.hid (show l.take j9 = l from List.take_of_length_le (by rw [L.out]; omega))
                  go_wp2_with fail
                  go_ret2
                  refine ⟨v, by first | (rw [HV.out.1]; done) | (rw [HV.out.1]; rfl), ?_, HB.out⟩
                  rw [HV.out.2]
                  have k9 := HO.out
                  rw [HM.out, HEE.out] at k9
                  exact RV.own k9
        | false =>
          have hw2 : emB now = false := hw
          have HV := Lib.hid (show stE l k s old now = 0 ∧ stV l k s old now = (l.filter (fun a => lessR a (k, s, now)) ++ [(k, s, now)]) ++ l.filter (fun a => lessR (k, s, now) a) from ⟨hz, by rw [HSV.out hz, HSL.out, if_neg (by rw [hw2]; simp)]⟩)
          clear ho2 hw2 hz
          clear HE HSL HSV
          have HB1 := Lib.hid (Below.refl w.heap.size w)
          go_enter Try.func61, Try.ntmps61
          go_wp2_with fail
          refine (HIN.out w).mono ?_
          rintro e w' ⟨rfl, rfl⟩
          go_wp2_with fail
          refine (HG.out w (H.out.below HB1.out)).mono ?_
          rintro e w1 ⟨rfl, hb1⟩
          have HB2 := Lib.hid (HB1.out.trans (hb1.mono HB1.out.size))
          clear hb1 HB1 
          have hw1 : w.heap.size ≤ w1.heap.size := HB2.out.size
          have HF3 := Lib.hid (blk_new w1 (.cells #[.int .i64 k, .string s, .string now] 97 (0, 0)))
          have HB4 := Lib.hid (HB2.out.alloc HB2.out.size (.cells #[.int .i64 k, .string s, .string now] 97 (0, 0)))
          clear HB2
          go_wp2_with fail
          go_loopw [14, 62] (fun vv i wr => ∃ (k9 : Nat) (v : Value) (M : List Rf), v = vv ∧ i = .int .i64 (k9 : Int) ∧ k9 ≤ n ∧ M = (l.take k9).filter (fun a => lessR a (k, s, now)) ∧ OwX rfC 3 97 wr (w1.heap.size + 1) v M ∧ wr.heap[w1.heap.size]? = some (.cells #[.int .i64 k, .string s, .string now] 97 (0, 0)) ∧ Below w.heap.size w wr) (fun _ i _ => n - (intOf i).toNat)
          case atStart => exact ⟨0, _, [], rfl, rfl, Nat.zero_le _, rfl, OwX.nil _, HF3.out, HB4.out⟩
          case round =>
            obtain ⟨k9, v, M, rfl, rfl, hk, hM, how, hbx, hb⟩ := hrel
            have HM := Lib.hid hM
            have HO := Lib.hid how
            have HBX := Lib.hid hbx
            have HB := Lib.hid hb
            have hv := how.one
            have hCw := lt_of_block hbx
            clear hM how hbx hb
            by_cases hlt : k9 < n
            · have hd1 : decide ((k9 : Int) < (n : Int)) = true := decide_eq_true (by omega)
              obtain ⟨b, off, hl, rfl, hbb, _⟩ := (H.out.below HB.out).at hlt
              have HFT := Lib.hid (filtR_take (fun a => lessR a (k, s, now)) l k9 hl)
              have hfl := filtR_len (fun a => lessR a (k, s, now)) l k9
              obtain ⟨y, hy⟩ : ∃ y, l[k9] = y := ⟨_, rfl⟩
              have HX := Lib.hid (show l[k9]? = some y by rw [List.getElem?_eq_getElem hl, hy])
              rw [hy] at HFT
              obtain ⟨y1, y2, y3⟩ := y
              have hi0 : (0 : Int) ≤ (k9 : Int) := by omega
              clear hy
              have HF := Lib.hid (fun W : World => rfless_any y1 y2 y3 k s now W)
              cases hq : lessR (y1, y2, y3) (k, s, now) with
              | true =>
                rw [hq] at HF
                have HR := Lib.hid (show M ++ [(y1, y2, y3)] = (l.take (k9 + 1)).filter (fun a => lessR a (k, s, now)) by rw [HFT.out, if_pos hq, HM.out])
                have hML : M.length ≤ 200002 := by rw [HM.out]; omega
                clear hq
                have hc101 : wr.cell? ⟨b, off + k9 * 3, none⟩ = some (.int .i64 y1) := (H.out.below HB.out).cellAt HX.out hlt 0 _ rfl
                have hc102 : wr.cell? ⟨b, off + k9 * 3 + 1, none⟩ = some (.string y2) := (H.out.below HB.out).cellAt HX.out hlt 1 _ rfl
                have hc103 : wr.cell? ⟨b, off + k9 * 3 + 2, none⟩ = some (.string y3) := (H.out.below HB.out).cellAt HX.out hlt 2 _ rfl
                have HF104 := Lib.hid (blk_alloc HBX.out (.cells #[.int .i64 y1, .string y2, .string y3] 97 (0, 0)))
                have HF105 := Lib.hid (blk_new wr (.cells #[.int .i64 y1, .string y2, .string y3] 97 (0, 0)))
                have HB106 := Lib.hid (HB.out.alloc HB.out.size (.cells #[.int .i64 y1, .string y2, .string y3] 97 (0, 0)))
                clear HB
                have hc107 : (wr.alloc (.cells #[.int .i64 y1, .string y2, .string y3] 97 (0, 0))).cell? ⟨wr.heap.size, 0, none⟩ = some (.int .i64 y1) := by rw [cell_of_row _ _ _ _ _ _ HF105.out]; rfl
                have hc108 : (wr.alloc (.cells #[.int .i64 y1, .string y2, .string y3] 97 (0, 0))).cell? ⟨wr.heap.size, 1, none⟩ = some (.string y2) := by rw [cell_of_row _ _ _ _ _ _ HF105.out]; rfl
                have hc109 : (wr.alloc (.cells #[.int .i64 y1, .string y2, .string y3] 97 (0, 0))).cell? ⟨wr.heap.size, 2, none⟩ = some (.string y3) := by rw [cell_of_row _ _ _ _ _ _ HF105.out]; rfl
                have hc110 : (wr.alloc (.cells #[.int .i64 y1, .string y2, .string y3] 97 (0, 0))).cell? ⟨w1.heap.size, 0, none⟩ = some (.int .i64 k) := by rw [cell_of_row _ _ _ _ _ _ HF104.out]; rfl
                have hc111 : wr.cell? ⟨w1.heap.size, 0, none⟩ = some (.int .i64 k) := by rw [cell_of_row _ _ _ _ _ _ HBX.out]; rfl
                have hc112 : (wr.alloc (.cells #[.int .i64 y1, .string y2, .string y3] 97 (0, 0))).cell? ⟨w1.heap.size, 1, none⟩ = some (.string s) := by rw [cell_of_row _ _ _ _ _ _ HF104.out]; rfl
                have hc113 : wr.cell? ⟨w1.heap.size, 1, none⟩ = some (.string s) := by rw [cell_of_row _ _ _ _ _ _ HBX.out]; rfl
                have hc114 : (wr.alloc (.cells #[.int .i64 y1, .string y2, .string y3] 97 (0, 0))).cell? ⟨w1.heap.size, 2, none⟩ = some (.string now) := by rw [cell_of_row _ _ _ _ _ _ HF104.out]; rfl
                have hc115 : wr.cell? ⟨w1.heap.size, 2, none⟩ = some (.string now) := by rw [cell_of_row _ _ _ _ _ _ HBX.out]; rfl
                have hl116 : w1.heap.size < wr.heap.size := lt_of_block HBX.out
                have hl117 : ¬ w1.heap.size = wr.heap.size := by omega
                have HO1 := Lib.hid (HO.out.alloc (.cells #[.int .i64 y1, .string y2, .string y3] 97 (0, 0)))
                go_wp2_with fail
                refine (HF.out (wr.alloc (.cells #[.int .i64 y1, .string y2, .string y3] 97 (0, 0)))).mono ?_
                rintro e w11 ⟨rfl, hb11⟩
                clear hc101 hc102 hc103 hc107 hc108 hc109 hc110 hc111 hc112 hc113 hc114 hc115 hl116 hl117
                have HF118 := Lib.hid (blk_below HF104.out hb11)
                have HF119 := Lib.hid (blk_below HF105.out hb11)
                have HB120 := Lib.hid (HB106.out.trans (hb11.mono HB106.out.size))
                have HQ121 := Lib.hid (HO1.out.laterR hb11)
                clear HO1
                clear hb11 HB106 HF104 HBX HF105
                have hc122 : w11.cell? ⟨wr.heap.size, 0, none⟩ = some (.int .i64 y1) := by rw [cell_of_row _ _ _ _ _ _ HF119.out]; rfl
                have hc123 : w11.cell? ⟨wr.heap.size, 1, none⟩ = some (.string y2) := by rw [cell_of_row _ _ _ _ _ _ HF119.out]; rfl
                have hc124 : w11.cell? ⟨wr.heap.size, 2, none⟩ = some (.string y3) := by rw [cell_of_row _ _ _ _ _ _ HF119.out]; rfl
                have hz1 : w1.heap.size + 1 ≤ w11.heap.size := by have := lt_of_block HF118.out; omega
                have HRa := Lib.hid (Below.refl (w1.heap.size + 1) w11)
                go_wp2_with (at_builtin; refine wpList_appX rfl (.tmp 69) (.tmp 71) 93 97 _ 40 rfl Try.underlying93 info_rfB rfl (by omega) (by omega) rfC_len rfC_one (w1.heap.size + 1) w11 (HRa.out.alloc hz1 _) (by simp; omega) v _ rfl (HQ121.out.alloc _) w11.heap.size 1 (y1, y2, y3) #[.int .i64 y1, .string y2, .string y3] 97 (0, 0) rfl (heap_alloc_new w11 _) rfl (by omega) ?_)
                intro v7 w7 HO7 HB7 HZ7 HG7
                clear hc122 hc123 hc124
                have HX7 := Lib.hid ((HB7.out.block (w1.heap.size) (by omega)).trans HF118.out)
                have HL7 := Lib.hid (HB120.out.trans (HB7.out.mono (by omega)))
                have hv7 := HO7.out.one
                go_wp2_with fail
                go_roundw
                case rel => exact ⟨k9 + 1, v7, _, rfl, by go_num, by omega, HR.out, HO7.out, HX7.out, HL7.out⟩
                case measure => simp [intOf] <;> omega
              | false =>
                rw [hq] at HF
                have HR := Lib.hid (show M = (l.take (k9 + 1)).filter (fun a => lessR a (k, s, now)) by rw [HFT.out, if_neg (by rw [hq]; simp), List.append_nil, HM.out])
                clear hq
                have hc101 : wr.cell? ⟨b, off + k9 * 3, none⟩ = some (.int .i64 y1) := (H.out.below HB.out).cellAt HX.out hlt 0 _ rfl
                have hc102 : wr.cell? ⟨b, off + k9 * 3 + 1, none⟩ = some (.string y2) := (H.out.below HB.out).cellAt HX.out hlt 1 _ rfl
                have hc103 : wr.cell? ⟨b, off + k9 * 3 + 2, none⟩ = some (.string y3) := (H.out.below HB.out).cellAt HX.out hlt 2 _ rfl
                have HF104 := Lib.hid (blk_alloc HBX.out (.cells #[.int .i64 y1, .string y2, .string y3] 97 (0, 0)))
                have HF105 := Lib.hid (blk_new wr (.cells #[.int .i64 y1, .string y2, .string y3] 97 (0, 0)))
                have HB106 := Lib.hid (HB.out.alloc HB.out.size (.cells #[.int .i64 y1, .string y2, .string y3] 97 (0, 0)))
                clear HB
                have hc107 : (wr.alloc (.cells #[.int .i64 y1, .string y2, .string y3] 97 (0, 0))).cell? ⟨wr.heap.size, 0, none⟩ = some (.int .i64 y1) := by rw [cell_of_row _ _ _ _ _ _ HF105.out]; rfl
                have hc108 : (wr.alloc (.cells #[.int .i64 y1, .string y2, .string y3] 97 (0, 0))).cell? ⟨wr.heap.size, 1, none⟩ = some (.string y2) := by rw [cell_of_row _ _ _ _ _ _ HF105.out]; rfl
                have hc109 : (wr.alloc (.cells #[.int .i64 y1, .string y2, .string y3] 97 (0, 0))).cell? ⟨wr.heap.size, 2, none⟩ = some (.string y3) := by rw [cell_of_row _ _ _ _ _ _ HF105.out]; rfl
                have hc110 : (wr.alloc (.cells #[.int .i64 y1, .string y2, .string y3] 97 (0, 0))).cell? ⟨w1.heap.size, 0, none⟩ = some (.int .i64 k) := by rw [cell_of_row _ _ _ _ _ _ HF104.out]; rfl
                have hc111 : wr.cell? ⟨w1.heap.size, 0, none⟩ = some (.int .i64 k) := by rw [cell_of_row _ _ _ _ _ _ HBX.out]; rfl
                have hc112 : (wr.alloc (.cells #[.int .i64 y1, .string y2, .string y3] 97 (0, 0))).cell? ⟨w1.heap.size, 1, none⟩ = some (.string s) := by rw [cell_of_row _ _ _ _ _ _ HF104.out]; rfl
                have hc113 : wr.cell? ⟨w1.heap.size, 1, none⟩ = some (.string s) := by rw [cell_of_row _ _ _ _ _ _ HBX.out]; rfl
                have hc114 : (wr.alloc (.cells #[.int .i64 y1, .string y2, .string y3] 97 (0, 0))).cell? ⟨w1.heap.size, 2, none⟩ = some (.string now) := by rw [cell_of_row _ _ _ _ _ _ HF104.out]; rfl
                have hc115 : wr.cell? ⟨w1.heap.size, 2, none⟩ = some (.string now) := by rw [cell_of_row _ _ _ _ _ _ HBX.out]; rfl
                have hl116 : w1.heap.size < wr.heap.size := lt_of_block HBX.out
                have hl117 : ¬ w1.heap.size = wr.heap.size := by omega
                have HO1 := Lib.hid (HO.out.alloc (.cells #[.int .i64 y1, .string y2, .string y3] 97 (0, 0)))
                go_wp2_with fail
                refine (HF.out (wr.alloc (.cells #[.int .i64 y1, .string y2, .string y3] 97 (0, 0)))).mono ?_
                rintro e w11 ⟨rfl, hb11⟩
                clear hc101 hc102 hc103 hc107 hc108 hc109 hc110 hc111 hc112 hc113 hc114 hc115 hl116 hl117
                have HF118 := Lib.hid (blk_below HF104.out hb11)
                have HF119 := Lib.hid (blk_below HF105.out hb11)
                have HB120 := Lib.hid (HB106.out.trans (hb11.mono HB106.out.size))
                have HQ121 := Lib.hid (HO1.out.laterR hb11)
                clear HO1
                clear hb11 HB106 HF104 HBX HF105
                go_wp2_with fail
                go_roundw
                case rel => exact ⟨k9 + 1, v, M, rfl, by go_num, by omega, HR.out, HQ121.out, HF118.out, HB120.out⟩
                case measure => simp [intOf] <;> omega
            · have hd1 : decide ((k9 : Int) < (n : Int)) = false := decide_eq_false (by omega)
              have HEE := Lib.hid (show l.take k9 = l from List.take_of_length_le (by rw [L.out]; omega))
              have HM1 := Lib.hid (show M = l.filter (fun a => lessR a (k, s, now)) by rw [HM.out, HEE.out])
              have HFL := Lib.hid (show (l.filter (fun a => lessR a (k, s, now))).length ≤ 100000 by have := List.length_filter_le (fun a => lessR a (k, s, now)) l; have := L.out; omega)
              have hc101 : wr.cell? ⟨w1.heap.size, 0, none⟩ = some (.int .i64 k) := by rw [cell_of_row _ _ _ _ _ _ HBX.out]; rfl
              have hc102 : wr.cell? ⟨w1.heap.size, 1, none⟩ = some (.string s) := by rw [cell_of_row _ _ _ _ _ _ HBX.out]; rfl
              have hc103 : wr.cell? ⟨w1.heap.size, 2, none⟩ = some (.string now) := by rw [cell_of_row _ _ _ _ _ _ HBX.out]; rfl
              have hz1 : w1.heap.size + 1 ≤ wr.heap.size := by omega
              have HRa := Lib.hid (Below.refl (w1.heap.size + 1) wr)
              go_wp2_with (at_builtin; refine wpList_appX rfl (.tmp 76) (.tmp 78) 93 97 _ 40 rfl Try.underlying93 info_rfB rfl (by omega) (by omega) rfC_len rfC_one (w1.heap.size + 1) wr (HRa.out.alloc hz1 _) (by simp; omega) v _ rfl (HO.out.alloc _) wr.heap.size 1 (k, s, now) #[.int .i64 k, .string s, .string now] 97 (0, 0) rfl (heap_alloc_new wr _) rfl (by rw [HM1.out]; have := HFL.out; omega) ?_)
              intro v7 w7 HO7 HB7 HZ7 HG7
              clear hc101 hc102 hc103
              have HX7 := Lib.hid ((HB7.out.block (w1.heap.size) (by omega)).trans HBX.out)
              have HL7 := Lib.hid (HB.out.trans (HB7.out.mono (by omega)))
              have hv7 := HO7.out.one
              rw [HM1.out] at HO7
              clear hd1
              go_wp2_with fail
              clear HB HO HBX hv hCw HM HEE
              go_loopw [14, 82] (fun vv i wr => ∃ (j9 : Nat) (v : Value) (M : List Rf), v = vv ∧ i = .int .i64 (j9 : Int) ∧ j9 ≤ n ∧ M = (l.filter (fun a => lessR a (k, s, now)) ++ [(k, s, now)]) ++ (l.take j9).filter (fun a => lessR (k, s, now) a) ∧ OwX rfC 3 97 wr (w1.heap.size + 1) v M ∧ wr.heap[w1.heap.size]? = some (.cells #[.int .i64 k, .string s, .string now] 97 (0, 0)) ∧ Below w.heap.size w wr) (fun _ i _ => n - (intOf i).toNat)
              case atStart => exact ⟨0, v7, _, rfl, rfl, Nat.zero_le _, by rw [List.take_zero, List.filter_nil, List.append_nil], HO7.out, HX7.out, HL7.out⟩
              case round =>
                obtain ⟨j9, v, M, rfl, rfl, hk, hM, how, hbx, hb⟩ := hrel
                have HM := Lib.hid hM
                have HO := Lib.hid how
                have HBX := Lib.hid hbx
                have HB := Lib.hid hb
                have hv := how.one
                have hCw := lt_of_block hbx
                clear hM how hbx hb
                by_cases hlt : j9 < n
                · have hd1 : decide ((j9 : Int) < (n : Int)) = true := decide_eq_true (by omega)
                  obtain ⟨b, off, hl, rfl, hbb, _⟩ := (H.out.below HB.out).at hlt
                  have HFT := Lib.hid (filtR_take (fun a => lessR (k, s, now) a) l j9 hl)
                  have hfl := filtR_len (fun a => lessR (k, s, now) a) l j9
                  obtain ⟨y, hy⟩ : ∃ y, l[j9] = y := ⟨_, rfl⟩
                  have HX := Lib.hid (show l[j9]? = some y by rw [List.getElem?_eq_getElem hl, hy])
                  rw [hy] at HFT
                  obtain ⟨y1, y2, y3⟩ := y
                  have hi0 : (0 : Int) ≤ (j9 : Int) := by omega
                  clear hy
                  have HF := Lib.hid (fun W : World => rfless_any k s now y1 y2 y3 W)
                  cases hq : lessR (k, s, now) (y1, y2, y3) with
                  | true =>
                    rw [hq] at HF
                    have HR := Lib.hid (show M ++ [(y1, y2, y3)] = (l.filter (fun a => lessR a (k, s, now)) ++ [(k, s, now)]) ++ (l.take (j9 + 1)).filter (fun a => lessR (k, s, now) a) by rw [HFT.out, if_pos hq, ← List.append_assoc, HM.out])
                    have hML : M.length ≤ 200002 := by rw [HM.out]; simp only [List.length_append, List.length_cons, List.length_nil]; have := HFL.out; omega
                    clear hq
                    have hc101 : wr.cell? ⟨b, off + j9 * 3, none⟩ = some (.int .i64 y1) := (H.out.below HB.out).cellAt HX.out hlt 0 _ rfl
                    have hc102 : wr.cell? ⟨b, off + j9 * 3 + 1, none⟩ = some (.string y2) := (H.out.below HB.out).cellAt HX.out hlt 1 _ rfl
                    have hc103 : wr.cell? ⟨b, off + j9 * 3 + 2, none⟩ = some (.string y3) := (H.out.below HB.out).cellAt HX.out hlt 2 _ rfl
                    have HF104 := Lib.hid (blk_alloc HBX.out (.cells #[.int .i64 y1, .string y2, .string y3] 97 (0, 0)))
                    have HF105 := Lib.hid (blk_new wr (.cells #[.int .i64 y1, .string y2, .string y3] 97 (0, 0)))
                    have HB106 := Lib.hid (HB.out.alloc HB.out.size (.cells #[.int .i64 y1, .string y2, .string y3] 97 (0, 0)))
                    clear HB
                    have hc107 : (wr.alloc (.cells #[.int .i64 y1, .string y2, .string y3] 97 (0, 0))).cell? ⟨wr.heap.size, 0, none⟩ = some (.int .i64 y1) := by rw [cell_of_row _ _ _ _ _ _ HF105.out]; rfl
                    have hc108 : (wr.alloc (.cells #[.int .i64 y1, .string y2, .string y3] 97 (0, 0))).cell? ⟨wr.heap.size, 1, none⟩ = some (.string y2) := by rw [cell_of_row _ _ _ _ _ _ HF105.out]; rfl
                    have hc109 : (wr.alloc (.cells #[.int .i64 y1, .string y2, .string y3] 97 (0, 0))).cell? ⟨wr.heap.size, 2, none⟩ = some (.string y3) := by rw [cell_of_row _ _ _ _ _ _ HF105.out]; rfl
                    have hc110 : (wr.alloc (.cells #[.int .i64 y1, .string y2, .string y3] 97 (0, 0))).cell? ⟨w1.heap.size, 0, none⟩ = some (.int .i64 k) := by rw [cell_of_row _ _ _ _ _ _ HF104.out]; rfl
                    have hc111 : wr.cell? ⟨w1.heap.size, 0, none⟩ = some (.int .i64 k) := by rw [cell_of_row _ _ _ _ _ _ HBX.out]; rfl
                    have hc112 : (wr.alloc (.cells #[.int .i64 y1, .string y2, .string y3] 97 (0, 0))).cell? ⟨w1.heap.size, 1, none⟩ = some (.string s) := by rw [cell_of_row _ _ _ _ _ _ HF104.out]; rfl
                    have hc113 : wr.cell? ⟨w1.heap.size, 1, none⟩ = some (.string s) := by rw [cell_of_row _ _ _ _ _ _ HBX.out]; rfl
                    have hc114 : (wr.alloc (.cells #[.int .i64 y1, .string y2, .string y3] 97 (0, 0))).cell? ⟨w1.heap.size, 2, none⟩ = some (.string now) := by rw [cell_of_row _ _ _ _ _ _ HF104.out]; rfl
                    have hc115 : wr.cell? ⟨w1.heap.size, 2, none⟩ = some (.string now) := by rw [cell_of_row _ _ _ _ _ _ HBX.out]; rfl
                    have hl116 : w1.heap.size < wr.heap.size := lt_of_block HBX.out
                    have hl117 : ¬ w1.heap.size = wr.heap.size := by omega
                    have HO1 := Lib.hid (HO.out.alloc (.cells #[.int .i64 y1, .string y2, .string y3] 97 (0, 0)))
                    go_wp2_with fail
                    refine (HF.out (wr.alloc (.cells #[.int .i64 y1, .string y2, .string y3] 97 (0, 0)))).mono ?_
                    rintro e w11 ⟨rfl, hb11⟩
                    clear hc101 hc102 hc103 hc107 hc108 hc109 hc110 hc111 hc112 hc113 hc114 hc115 hl116 hl117
                    have HF118 := Lib.hid (blk_below HF104.out hb11)
                    have HF119 := Lib.hid (blk_below HF105.out hb11)
                    have HB120 := Lib.hid (HB106.out.trans (hb11.mono HB106.out.size))
                    have HQ121 := Lib.hid (HO1.out.laterR hb11)
                    clear HO1
                    clear hb11 HB106 HF104 HBX HF105
                    have hc122 : w11.cell? ⟨wr.heap.size, 0, none⟩ = some (.int .i64 y1) := by rw [cell_of_row _ _ _ _ _ _ HF119.out]; rfl
                    have hc123 : w11.cell? ⟨wr.heap.size, 1, none⟩ = some (.string y2) := by rw [cell_of_row _ _ _ _ _ _ HF119.out]; rfl
                    have hc124 : w11.cell? ⟨wr.heap.size, 2, none⟩ = some (.string y3) := by rw [cell_of_row _ _ _ _ _ _ HF119.out]; rfl
                    have hz1 : w1.heap.size + 1 ≤ w11.heap.size := by have := lt_of_block HF118.out; omega
                    have HRa := Lib.hid (Below.refl (w1.heap.size + 1) w11)
                    go_wp2_with (at_builtin; refine wpList_appX rfl (.tmp 89) (.tmp 91) 93 97 _ 40 rfl Try.underlying93 info_rfB rfl (by omega) (by omega) rfC_len rfC_one (w1.heap.size + 1) w11 (HRa.out.alloc hz1 _) (by simp; omega) v _ rfl (HQ121.out.alloc _) w11.heap.size 1 (y1, y2, y3) #[.int .i64 y1, .string y2, .string y3] 97 (0, 0) rfl (heap_alloc_new w11 _) rfl (by omega) ?_)
                    intro v7 w7 HO7 HB7 HZ7 HG7
                    clear hc122 hc123 hc124
                    have HX7 := Lib.hid ((HB7.out.block (w1.heap.size) (by omega)).trans HF118.out)
                    have HL7 := Lib.hid (HB120.out.trans (HB7.out.mono (by omega)))
                    have hv7 := HO7.out.one
                    go_wp2_with fail
                    go_roundw
                    case rel => exact ⟨j9 + 1, v7, _, rfl, by go_num, by omega, HR.out, HO7.out, HX7.out, HL7.out⟩
                    case measure => simp [intOf] <;> omega
                  | false =>
                    rw [hq] at HF
                    have HR := Lib.hid (show M = (l.filter (fun a => lessR a (k, s, now)) ++ [(k, s, now)]) ++ (l.take (j9 + 1)).filter (fun a => lessR (k, s, now) a) by rw [HFT.out, if_neg (by rw [hq]; simp), List.append_nil, HM.out])
                    clear hq
                    have hc101 : wr.cell? ⟨b, off + j9 * 3, none⟩ = some (.int .i64 y1) := (H.out.below HB.out).cellAt HX.out hlt 0 _ rfl
                    have hc102 : wr.cell? ⟨b, off + j9 * 3 + 1, none⟩ = some (.string y2) := (H.out.below HB.out).cellAt HX.out hlt 1 _ rfl
                    have hc103 : wr.cell? ⟨b, off + j9 * 3 + 2, none⟩ = some (.string y3) := (H.out.below HB.out).cellAt HX.out hlt 2 _ rfl
                    have HF104 := Lib.hid (blk_alloc HBX.out (.cells #[.int .i64 y1, .string y2, .string y3] 97 (0, 0)))
                    have HF105 := Lib.hid (blk_new wr (.cells #[.int .i64 y1, .string y2, .string y3] 97 (0, 0)))
                    have HB106 := Lib.hid (HB.out.alloc HB.out.size (.cells #[.int .i64 y1, .string y2, .string y3] 97 (0, 0)))
                    clear HB
                    have hc107 : (wr.alloc (.cells #[.int .i64 y1, .string y2, .string y3] 97 (0, 0))).cell? ⟨wr.heap.size, 0, none⟩ = some (.int .i64 y1) := by rw [cell_of_row _ _ _ _ _ _ HF105.out]; rfl
                    have hc108 : (wr.alloc (.cells #[.int .i64 y1, .string y2, .string y3] 97 (0, 0))).cell? ⟨wr.heap.size, 1, none⟩ = some (.string y2) := by rw [cell_of_row _ _ _ _ _ _ HF105.out]; rfl
                    have hc109 : (wr.alloc (.cells #[.int .i64 y1, .string y2, .string y3] 97 (0, 0))).cell? ⟨wr.heap.size, 2, none⟩ = some (.string y3) := by rw [cell_of_row _ _ _ _ _ _ HF105.out]; rfl
                    have hc110 : (wr.alloc (.cells #[.int .i64 y1, .string y2, .string y3] 97 (0, 0))).cell? ⟨w1.heap.size, 0, none⟩ = some (.int .i64 k) := by rw [cell_of_row _ _ _ _ _ _ HF104.out]; rfl
                    have hc111 : wr.cell? ⟨w1.heap.size, 0, none⟩ = some (.int .i64 k) := by rw [cell_of_row _ _ _ _ _ _ HBX.out]; rfl
                    have hc112 : (wr.alloc (.cells #[.int .i64 y1, .string y2, .string y3] 97 (0, 0))).cell? ⟨w1.heap.size, 1, none⟩ = some (.string s) := by rw [cell_of_row _ _ _ _ _ _ HF104.out]; rfl
                    have hc113 : wr.cell? ⟨w1.heap.size, 1, none⟩ = some (.string s) := by rw [cell_of_row _ _ _ _ _ _ HBX.out]; rfl
                    have hc114 : (wr.alloc (.cells #[.int .i64 y1, .string y2, .string y3] 97 (0, 0))).cell? ⟨w1.heap.size, 2, none⟩ = some (.string now) := by rw [cell_of_row _ _ _ _ _ _ HF104.out]; rfl
                    have hc115 : wr.cell? ⟨w1.heap.size, 2, none⟩ = some (.string now) := by rw [cell_of_row _ _ _ _ _ _ HBX.out]; rfl
                    have hl116 : w1.heap.size < wr.heap.size := lt_of_block HBX.out
                    have hl117 : ¬ w1.heap.size = wr.heap.size := by omega
                    have HO1 := Lib.hid (HO.out.alloc (.cells #[.int .i64 y1, .string y2, .string y3] 97 (0, 0)))
                    go_wp2_with fail
                    refine (HF.out (wr.alloc (.cells #[.int .i64 y1, .string y2, .string y3] 97 (0, 0)))).mono ?_
                    rintro e w11 ⟨rfl, hb11⟩
                    clear hc101 hc102 hc103 hc107 hc108 hc109 hc110 hc111 hc112 hc113 hc114 hc115 hl116 hl117
                    have HF118 := Lib.hid (blk_below HF104.out hb11)
                    have HF119 := Lib.hid (blk_below HF105.out hb11)
                    have HB120 := Lib.hid (HB106.out.trans (hb11.mono HB106.out.size))
                    have HQ121 := Lib.hid (HO1.out.laterR hb11)
                    clear HO1
                    clear hb11 HB106 HF104 HBX HF105
                    go_wp2_with fail
                    go_roundw
                    case rel => exact ⟨j9 + 1, v, M, rfl, by go_num, by omega, HR.out, HQ121.out, HF118.out, HB120.out⟩
                    case measure => simp [intOf] <;> omega
                · have hd1 : decide ((j9 : Int) < (n : Int)) = false := decide_eq_false (by omega)
                  have HEE := Lib.hid (show l.take j9 = l from List.take_of_length_le (by rw [L.out]; omega))
                  go_wp2_with fail
                  go_ret2
                  refine ⟨v, by first | (rw [HV.out.1]; done) | (rw [HV.out.1]; rfl), ?_, HB.out⟩
                  rw [HV.out.2]
                  have k9 := HO.out
                  rw [HM.out, HEE.out] at k9
                  exact RV.own k9
end Go.Proofs.Ytbjngbacnkmjhaa
