/- Several texts of one family, merged for a claim. Conditions as in its parts. -/
import Derived.Test.YtpjpegmjcgkonaaIa
import Derived.Test.YtpjpegmjcgkonaaG0
import Derived.Test.YtpjpegmjcgkonaaPx
import Derived.Lib.AppendZerosOnto
import Derived.Laws.OwnMore
import Derived.Test.YtpjpegmjcgkonaaAa
import Derived.Carry
import Derived.Maps.Own
import Derived.StringKeys
import Derived.Deep.DeepCutAuto
import Derived.Test.YtpjpegmjcgkonaaIb
import Derived.Deep.RegionHeld3
import Derived.Deep.RegionLaw
import Derived.IntWalk
namespace Go.Proofs.Ytpjpegmjcgkonaa
open Go.RowKit Vi

theorem info_fcB : (Try.prog.info? 32).map (fun i => (i.zero, i.size, i.bytes)) = some (some (.agg #[.int .i64 0, .string ⟨#[]⟩, .string ⟨#[]⟩, .string ⟨#[]⟩]), 4, 56) := by kernel_rfl
def RetF0 (w : World) (L : List Fc) (e : Ending) (w' : World) : Prop := ∃ v, e = .returned v ∧ OwX fcC 4 32 w' w.heap.size v L ∧ Below w.heap.size w w'
set_option maxRecDepth 100000 in
set_option maxHeartbeats 1600000 in
theorem fgrow_any (n : Nat) (w : World) (hn : n ≤ 300000) :
    Calls Try.prog 51 #[.slice none 0 0, .int .i64 (n : Int)] w (RetF0 w []) := by
  rcases Nat.eq_zero_or_pos n with rfl | hp
  · go_enter Try.func51, Try.ntmps51
    go_wp2
    go_ret
    exact ⟨_, rfl, OwX.nil w, Below.refl _ _⟩
  · obtain ⟨i0, hi, hz0, hz1, hz2⟩ := info_parts info_fcB
    have hrz := fun ty => Lib.run_append_nil_zeros (P := Try.prog) w 22 3 ty 32 i0 (.agg #[.int .i64 0, .string ⟨#[]⟩, .string ⟨#[]⟩, .string ⟨#[]⟩]) .i64 .i64 Try.underlying22 Try.underlying3 hi hz0 n hp (by omega) (by omega) (by rw [hz2]; omega)
    have hGn : n ≤ grownCap w n 0 32 := grownCap_ge w _ _ _
    have hGm : grownCap w n 0 32 ≤ maxLen := grownCap_le_maxLen w n 0 32 (by unfold maxLen; omega)
    obtain ⟨G, hG⟩ : ∃ G, G = grownCap w n 0 32 := ⟨_, rfl⟩
    rw [← hG] at hGn hGm
    simp only [← hG] at hrz
    clear hG
    have hGm2 := hGm
    unfold maxLen at hGm2
    have h4 : (n : Int) > 0 := by omega
    have h1 : ¬ ((n : Int) < 0) := by omega
    have HRZ := Lib.hid hrz
    clear hrz hi hz0 hz1 hz2
    go_enter Try.func51, Try.ntmps51
    go_wp2_with (at_builtin; refine Lib.wpList_append_run _ rfl _ _ _ _ rfl _ _ rfl rfl _ _ (HRZ.out _) ?_)
    all_goals go_ret
    all_goals exact ⟨_, rfl, OwX.zero (heap_alloc_new w.drew _) (Nat.le_refl _) hGm (by simp [size_zeroCells]; omega), ((Below.refl _ w).drew).alloc (Nat.le_refl _) _⟩
theorem newF_one (w : World) (o : Obj) : (w.alloc o).drew.heap[w.heap.size]? = some o := (MapKept.heap_alloc w o).1
theorem belF_one (w : World) (o : Obj) : Below w.heap.size w (w.alloc o).drew := ((Below.refl _ w).alloc (Nat.le_refl _) o).drew
theorem sizF_one (w : World) (o : Obj) : w.heap.size < (w.alloc o).drew.heap.size := by show _ < (w.heap.push o).size; simp
/-- a slice of facts that came in -/
structure SlF where
  a : Option Addr
  n : Nat
  c : Nat
  l : List Fc
def slFC (x : SlF) : List Value := [.slice x.a x.n x.c]
def totF (xs : List SlF) : Nat := (xs.map (·.n)).sum
theorem totF_take (xs : List SlF) (k : Nat) (h : k < xs.length) : totF (xs.take (k + 1)) = totF (xs.take k) + xs[k].n := by
  rw [List.take_succ_eq_append_getElem h]; unfold totF; simp only [List.map_append, List.sum_append, List.map_cons, List.map_nil, List.sum_cons, List.sum_nil]; omega
theorem totF_le (xs : List SlF) (k : Nat) : totF (xs.take k) ≤ totF xs := by
  have : totF xs = totF (xs.take k) + totF (xs.drop k) := by
    unfold totF
    rw [← List.sum_append, ← List.map_append, List.take_append_drop]
  omega
theorem catF_take (xs : List SlF) (k : Nat) (h : k < xs.length) : (xs.take (k + 1)).flatMap (·.l) = (xs.take k).flatMap (·.l) ++ xs[k].l := by
  rw [List.take_succ_eq_append_getElem h, List.flatMap_append]; simp only [List.flatMap_cons, List.flatMap_nil, List.append_nil]
theorem catF_len (w : World) (xs : List SlF) (h : ∀ x ∈ xs, RdX fcC 4 w x.a x.n x.l) : (xs.flatMap (·.l)).length = totF xs := by
  induction xs with
  | nil => rfl
  | cons x r ih =>
    rw [List.flatMap_cons, List.length_append, ih (fun y hy => h y (List.mem_cons_of_mem _ hy)), (h x (by simp)).1]
    unfold totF; simp
set_option maxRecDepth 100000 in
set_option maxHeartbeats 2000000 in
theorem fconcat_any (b off m cp : Nat) (xs : List SlF) (w : World) (h : RdX slFC 1 w (some ⟨b, off, none⟩) m xs) (hx : ∀ x ∈ xs, RdX fcC 4 w x.a x.n x.l) (hm : m ≤ 100) (ht : totF xs ≤ 100000) :
    Calls Try.prog 37 #[.slice (some ⟨b, off, none⟩) m cp] w (RetF0 w (xs.flatMap (·.l))) := by
  have H := Lib.hid h
  have HX := Lib.hid hx
  have L := Lib.hid h.1
  have HTT := Lib.hid (fun k => totF_le xs k)
  clear h hx
  go_enter Try.func37, Try.ntmps37
  go_wp2
  go_loop [3, 5, 11] (fun v _ i => ∃ (k t : Nat), i = .int .i64 (k : Int) ∧ v = .int .i64 (t : Int) ∧ k ≤ m ∧ t = totF (xs.take k)) (fun _ _ i => m - (intOf i).toNat)
  case atStart => exact ⟨0, 0, rfl, rfl, Nat.zero_le _, rfl⟩
  case round =>
    obtain ⟨k, t, rfl, rfl, hk, htk⟩ := hrel
    have HTK := Lib.hid htk
    have ht1 : t ≤ 100000 := by have := HTT.out k; rw [htk]; omega
    clear htk
    by_cases hlt : k < m
    · have hd1 : decide ((k : Int) < (m : Int)) = true := decide_eq_true (by omega)
      have hl : k < xs.length := by rw [L.out]; exact hlt
      have HA := Lib.hid (totF_take xs k hl)
      have hle := HTT.out (k + 1)
      rw [HA.out, ← HTK.out] at hle
      obtain ⟨x, hx⟩ : ∃ x, xs[k] = x := ⟨_, rfl⟩
      have HXK := Lib.hid (show xs[k]? = some x by rw [List.getElem?_eq_getElem hl, hx])
      rw [hx] at HA hle
      obtain ⟨xa, xn, xc, xl⟩ := x
      have a0 : w.cell? ⟨b, off + k, none⟩ = some (.slice xa xn xc) := by have h := H.out.cellAt HXK.out hlt 0 _ rfl; rw [Nat.add_zero, Nat.mul_one] at h; exact h
      have hxn : t + xn ≤ 100000 := Nat.le_trans hle ht
      have HA : Hid (totF (xs.take (k + 1)) = totF (xs.take k) + xn) := HA
      have HR := Lib.hid (show t + xn = totF (xs.take (k + 1)) by rw [HA.out, HTK.out])
      have hi0 : (0 : Int) ≤ (k : Int) := by omega
      have hneg : decide ((t : Int) + (xn : Int) < 0) = false := decide_eq_false (by omega)
      clear hx hle
      go_wp2_with fail
      go_round
      case rel => exact ⟨k + 1, t + xn, by go_num, by go_num, by omega, HR.out⟩
      case measure => simp [intOf] <;> omega
    · have hd1 : decide ((k : Int) < (m : Int)) = false := decide_eq_false (by omega)
      go_wp2_with fail
      refine (fgrow_any t w (by omega)).mono ?_
      rintro e w1 ⟨v1, rfl, ho1, hb1⟩
      have HO1 := Lib.hid ho1
      have HB1 := Lib.hid hb1
      have hv1 := ho1.one
      clear ho1 hb1 hd1
      go_wp2_with fail
      go_loopw [6, 8, 27] (fun vv _ i wr => ∃ (j : Nat) (v : Value), v = vv ∧ i = .int .i64 (j : Int) ∧ j ≤ m ∧ OwX fcC 4 32 wr w.heap.size v ((xs.take j).flatMap (·.l)) ∧ Below w.heap.size w wr) (fun _ _ i _ => m - (intOf i).toNat)
      case atStart => exact ⟨0, _, rfl, rfl, Nat.zero_le _, HO1.out, HB1.out⟩
      case round =>
        obtain ⟨j, v, rfl, rfl, hj, ho, hb⟩ := hrel
        have HO := Lib.hid ho
        have HB := Lib.hid hb
        have hv := ho.one
        clear ho hb
        by_cases hlt2 : j < m
        · have hd1 : decide ((j : Int) < (m : Int)) = true := decide_eq_true (by omega)
          have hl : j < xs.length := by rw [L.out]; exact hlt2
          have HCT := Lib.hid (catF_take xs j hl)
          have HRJ := Lib.hid (HX.out _ (List.getElem_mem hl))
          have HTJ := Lib.hid (totF_take xs j hl)
          have hle := HTT.out (j + 1)
          rw [HTJ.out] at hle
          have HLJ := Lib.hid (catF_len w (xs.take j) (fun y hy => HX.out y (List.mem_of_mem_take hy)))
          obtain ⟨x, hx⟩ : ∃ x, xs[j] = x := ⟨_, rfl⟩
          have HXK := Lib.hid (show xs[j]? = some x by rw [List.getElem?_eq_getElem hl, hx])
          rw [hx] at HCT HRJ hle
          obtain ⟨xa, xn, xc, xl⟩ := x
          have a0 : wr.cell? ⟨b, off + j, none⟩ = some (.slice xa xn xc) := by have h := (H.out.below HB.out).cellAt HXK.out hlt2 0 _ rfl; rw [Nat.add_zero, Nat.mul_one] at h; exact h
          have HRJ : Hid (RdX fcC 4 w xa xn xl) := HRJ
          have HCT : Hid ((xs.take (j + 1)).flatMap (·.l) = (xs.take j).flatMap (·.l) ++ xl) := HCT
          have hle : totF (xs.take j) + xn ≤ totF xs := hle
          have hi0 : (0 : Int) ≤ (j : Int) := by omega
          clear hx
          go_wp2_with (at_builtin; refine wpList_appXs rfl _ _ 22 32 _ 56 rfl Try.underlying22 info_fcB rfl (by omega) (by omega) fcC_len fcC_one w.heap.size w HB.out HB.out.size v _ rfl HO.out xa xn xc xl rfl (HRJ.out.below HB.out) (by rw [HLJ.out]; omega) ?_)
          intro v2 w2 HO2 HB2 HZ2 HG2
          have hv2 := HO2.out.one
          go_wp2_with fail
          go_roundw
          case rel => exact ⟨j + 1, v2, rfl, by go_num, by omega, by rw [HCT.out]; exact HO2.out, HB2.out⟩
          case measure => simp [intOf] <;> omega
        · have hd1 : decide ((j : Int) < (m : Int)) = false := decide_eq_false (by omega)
          have HE := Lib.hid (show xs.take j = xs from List.take_of_length_le (by rw [L.out]; omega))
          rw [HE.out] at HO
          go_wp2_with fail
          go_ret
          exact ⟨v, rfl, HO.out, HB.out⟩
end Go.Proofs.Ytpjpegmjcgkonaa

namespace Go.Proofs.Ytpjpegmjcgkonaa
open Go.RowKit Vi

set_option maxRecDepth 100000 in
set_option maxHeartbeats 2000000 in
theorem cprops_any (A : Option Addr) (n c : Nat) (ps : List Pr) (w : World) (h : RdX prC 4 w A n ps) (hn : (n : Int) ≤ 9223372036854775807) (ht : ∀ p ∈ ps, p.1.size ≤ maxLen) :
    Calls Try.prog 78 #[.slice A n c] w fun e w' => e = .returned (.int .i64 (prW ps)) ∧ Below w.heap.size w w' := by
  have H := Lib.hid h
  have L := Lib.hid h.1
  have HT := Lib.hid ht
  clear h ht
  by_cases h8 : 8 < n
  · have d1 : decide ((8 : Int) < (n : Int)) = true := decide_eq_true (by omega)
    have HV := Lib.hid (show (5 : Int) = prW ps by unfold prW; rw [if_pos (by rw [L.out]; exact h8)])
    go_enter Try.func78, Try.ntmps78
    go_wp2_with fail
    go_ret
    exact ⟨retI HV.out, Below.refl _ _⟩
  · have d1 : decide ((8 : Int) < (n : Int)) = false := decide_eq_false (by omega)
    have HV := Lib.hid (show prE ⟨#[]⟩ ps = prW ps by unfold prW; rw [if_neg (by rw [L.out]; exact h8)])
    go_enter Try.func78, Try.ntmps78
    go_wp2_with fail
    go_loopw [3, 11] (fun s i wr => ∃ (k : Nat) (p : ByteArray), s = .string p ∧ i = .int .i64 (k : Int) ∧ k ≤ n ∧ prE p (ps.drop k) = prE ⟨#[]⟩ ps ∧ Below w.heap.size w wr) (fun _ i _ => n - (intOf i).toNat)
    case atStart => exact ⟨0, _, rfl, rfl, Nat.zero_le _, rfl, Below.refl _ _⟩
    case round =>
      obtain ⟨k, p, rfl, rfl, hk, hs, hb⟩ := hrel
      have HS := Lib.hid hs
      have HB := Lib.hid hb
      clear hs hb
      by_cases hlt : k < n
      · have hd1 : decide ((k : Int) < (n : Int)) = true := decide_eq_true (by omega)
        obtain ⟨b, off, hl, rfl, hbb, _⟩ := (H.out.below HB.out).at hlt
        have HA := Lib.hid (prE_at p ps k hl)
        have hsz := HT.out _ (List.getElem_mem hl)
        obtain ⟨x, hx⟩ : ∃ x, ps[k] = x := ⟨_, rfl⟩
        have HX := Lib.hid (show ps[k]? = some x by rw [List.getElem?_eq_getElem hl, hx])
        rw [hx] at HA hsz
        obtain ⟨s, a, d, t⟩ := x
        have hsz : s.size ≤ maxLen := hsz
        have hi0 : (0 : Int) ≤ (k : Int) := by omega
        have HST := Lib.hid (fun W : World => stand_any s a d t W hsz)
        clear hx hsz
        cases ho : okP (s, a, d, t) with
        | false =>
          rw [ho] at HST
          have HR := Lib.hid (show (2 : Int) = prW ps by rw [← HV.out, ← HS.out, HA.out, if_pos ho])
          clear ho
          have hc101 : wr.cell? ⟨b, off + k * 4, none⟩ = some (.string s) := (H.out.below HB.out).cellAt HX.out hlt 0 _ rfl
          have hc102 : wr.cell? ⟨b, off + k * 4 + 1, none⟩ = some (.int .i64 a) := (H.out.below HB.out).cellAt HX.out hlt 1 _ rfl
          have hc103 : wr.cell? ⟨b, off + k * 4 + 2, none⟩ = some (.int .i64 d) := (H.out.below HB.out).cellAt HX.out hlt 2 _ rfl
          have hc104 : wr.cell? ⟨b, off + k * 4 + 3, none⟩ = some (.string t) := (H.out.below HB.out).cellAt HX.out hlt 3 _ rfl
          have HF105 := Lib.hid (blk_new wr (.cells #[.string s, .int .i64 a, .int .i64 d, .string t] 91 (0, 0)))
          have HB106 := Lib.hid (HB.out.alloc HB.out.size (.cells #[.string s, .int .i64 a, .int .i64 d, .string t] 91 (0, 0)))
          clear HB
          have hc107 : (wr.alloc (.cells #[.string s, .int .i64 a, .int .i64 d, .string t] 91 (0, 0))).cell? ⟨wr.heap.size, 0, none⟩ = some (.string s) := by rw [cell_of_row _ _ _ _ _ _ HF105.out]; rfl
          have hc108 : (wr.alloc (.cells #[.string s, .int .i64 a, .int .i64 d, .string t] 91 (0, 0))).cell? ⟨wr.heap.size, 1, none⟩ = some (.int .i64 a) := by rw [cell_of_row _ _ _ _ _ _ HF105.out]; rfl
          have hc109 : (wr.alloc (.cells #[.string s, .int .i64 a, .int .i64 d, .string t] 91 (0, 0))).cell? ⟨wr.heap.size, 2, none⟩ = some (.int .i64 d) := by rw [cell_of_row _ _ _ _ _ _ HF105.out]; rfl
          have hc110 : (wr.alloc (.cells #[.string s, .int .i64 a, .int .i64 d, .string t] 91 (0, 0))).cell? ⟨wr.heap.size, 3, none⟩ = some (.string t) := by rw [cell_of_row _ _ _ _ _ _ HF105.out]; rfl
          go_wp2_with fail
          clear hc101 hc102 hc103 hc104 hc107 hc108 hc109 hc110
          refine (HST.out (wr.alloc (.cells #[.string s, .int .i64 a, .int .i64 d, .string t] 91 (0, 0)))).mono ?_
          rintro e w11 ⟨rfl, hb11⟩
          have HF111 := Lib.hid (blk_below HF105.out hb11)
          have HB112 := Lib.hid (HB106.out.trans (hb11.mono HB106.out.size))
          clear hb11 HB106 HF105
          go_wp2_with fail
          go_ret
          exact ⟨retI HR.out, HB112.out⟩
        | true =>
          rw [ho] at HST
          have HNB := Lib.hid (show ¬ okP (s, a, d, t) = false by rw [ho]; simp)
          clear ho
          rcases leS_cases s p with ⟨g1, hg⟩ | ⟨g1, g2, hg⟩ | ⟨g1, g2, hg⟩
          · have HR := Lib.hid (show (4 : Int) = prW ps by rw [← HV.out, ← HS.out, HA.out, if_neg HNB.out, if_pos hg])
            clear hg
            have hc101 : wr.cell? ⟨b, off + k * 4, none⟩ = some (.string s) := (H.out.below HB.out).cellAt HX.out hlt 0 _ rfl
            have hc102 : wr.cell? ⟨b, off + k * 4 + 1, none⟩ = some (.int .i64 a) := (H.out.below HB.out).cellAt HX.out hlt 1 _ rfl
            have hc103 : wr.cell? ⟨b, off + k * 4 + 2, none⟩ = some (.int .i64 d) := (H.out.below HB.out).cellAt HX.out hlt 2 _ rfl
            have hc104 : wr.cell? ⟨b, off + k * 4 + 3, none⟩ = some (.string t) := (H.out.below HB.out).cellAt HX.out hlt 3 _ rfl
            have HF105 := Lib.hid (blk_new wr (.cells #[.string s, .int .i64 a, .int .i64 d, .string t] 91 (0, 0)))
            have HB106 := Lib.hid (HB.out.alloc HB.out.size (.cells #[.string s, .int .i64 a, .int .i64 d, .string t] 91 (0, 0)))
            clear HB
            have hc107 : (wr.alloc (.cells #[.string s, .int .i64 a, .int .i64 d, .string t] 91 (0, 0))).cell? ⟨wr.heap.size, 0, none⟩ = some (.string s) := by rw [cell_of_row _ _ _ _ _ _ HF105.out]; rfl
            have hc108 : (wr.alloc (.cells #[.string s, .int .i64 a, .int .i64 d, .string t] 91 (0, 0))).cell? ⟨wr.heap.size, 1, none⟩ = some (.int .i64 a) := by rw [cell_of_row _ _ _ _ _ _ HF105.out]; rfl
            have hc109 : (wr.alloc (.cells #[.string s, .int .i64 a, .int .i64 d, .string t] 91 (0, 0))).cell? ⟨wr.heap.size, 2, none⟩ = some (.int .i64 d) := by rw [cell_of_row _ _ _ _ _ _ HF105.out]; rfl
            have hc110 : (wr.alloc (.cells #[.string s, .int .i64 a, .int .i64 d, .string t] 91 (0, 0))).cell? ⟨wr.heap.size, 3, none⟩ = some (.string t) := by rw [cell_of_row _ _ _ _ _ _ HF105.out]; rfl
            go_wp2_with fail
            clear hc101 hc102 hc103 hc104 hc107 hc108 hc109 hc110
            refine (HST.out (wr.alloc (.cells #[.string s, .int .i64 a, .int .i64 d, .string t] 91 (0, 0)))).mono ?_
            rintro e w11 ⟨rfl, hb11⟩
            have HF111 := Lib.hid (blk_below HF105.out hb11)
            have HB112 := Lib.hid (HB106.out.trans (hb11.mono HB106.out.size))
            clear hb11 HB106 HF105
            have hc113 : w11.cell? ⟨wr.heap.size, 0, none⟩ = some (.string s) := by rw [cell_of_row _ _ _ _ _ _ HF111.out]; rfl
            have hc114 : w11.cell? ⟨wr.heap.size, 1, none⟩ = some (.int .i64 a) := by rw [cell_of_row _ _ _ _ _ _ HF111.out]; rfl
            have hc115 : w11.cell? ⟨wr.heap.size, 2, none⟩ = some (.int .i64 d) := by rw [cell_of_row _ _ _ _ _ _ HF111.out]; rfl
            have hc116 : w11.cell? ⟨wr.heap.size, 3, none⟩ = some (.string t) := by rw [cell_of_row _ _ _ _ _ _ HF111.out]; rfl
            go_wp2_with fail
            go_ret
            exact ⟨retI HR.out, HB112.out⟩
          · have HR := Lib.hid (show (4 : Int) = prW ps by rw [← HV.out, ← HS.out, HA.out, if_neg HNB.out, if_pos hg])
            clear hg
            have hc101 : wr.cell? ⟨b, off + k * 4, none⟩ = some (.string s) := (H.out.below HB.out).cellAt HX.out hlt 0 _ rfl
            have hc102 : wr.cell? ⟨b, off + k * 4 + 1, none⟩ = some (.int .i64 a) := (H.out.below HB.out).cellAt HX.out hlt 1 _ rfl
            have hc103 : wr.cell? ⟨b, off + k * 4 + 2, none⟩ = some (.int .i64 d) := (H.out.below HB.out).cellAt HX.out hlt 2 _ rfl
            have hc104 : wr.cell? ⟨b, off + k * 4 + 3, none⟩ = some (.string t) := (H.out.below HB.out).cellAt HX.out hlt 3 _ rfl
            have HF105 := Lib.hid (blk_new wr (.cells #[.string s, .int .i64 a, .int .i64 d, .string t] 91 (0, 0)))
            have HB106 := Lib.hid (HB.out.alloc HB.out.size (.cells #[.string s, .int .i64 a, .int .i64 d, .string t] 91 (0, 0)))
            clear HB
            have hc107 : (wr.alloc (.cells #[.string s, .int .i64 a, .int .i64 d, .string t] 91 (0, 0))).cell? ⟨wr.heap.size, 0, none⟩ = some (.string s) := by rw [cell_of_row _ _ _ _ _ _ HF105.out]; rfl
            have hc108 : (wr.alloc (.cells #[.string s, .int .i64 a, .int .i64 d, .string t] 91 (0, 0))).cell? ⟨wr.heap.size, 1, none⟩ = some (.int .i64 a) := by rw [cell_of_row _ _ _ _ _ _ HF105.out]; rfl
            have hc109 : (wr.alloc (.cells #[.string s, .int .i64 a, .int .i64 d, .string t] 91 (0, 0))).cell? ⟨wr.heap.size, 2, none⟩ = some (.int .i64 d) := by rw [cell_of_row _ _ _ _ _ _ HF105.out]; rfl
            have hc110 : (wr.alloc (.cells #[.string s, .int .i64 a, .int .i64 d, .string t] 91 (0, 0))).cell? ⟨wr.heap.size, 3, none⟩ = some (.string t) := by rw [cell_of_row _ _ _ _ _ _ HF105.out]; rfl
            go_wp2_with fail
            clear hc101 hc102 hc103 hc104 hc107 hc108 hc109 hc110
            refine (HST.out (wr.alloc (.cells #[.string s, .int .i64 a, .int .i64 d, .string t] 91 (0, 0)))).mono ?_
            rintro e w11 ⟨rfl, hb11⟩
            have HF111 := Lib.hid (blk_below HF105.out hb11)
            have HB112 := Lib.hid (HB106.out.trans (hb11.mono HB106.out.size))
            clear hb11 HB106 HF105
            have hc113 : w11.cell? ⟨wr.heap.size, 0, none⟩ = some (.string s) := by rw [cell_of_row _ _ _ _ _ _ HF111.out]; rfl
            have hc114 : w11.cell? ⟨wr.heap.size, 1, none⟩ = some (.int .i64 a) := by rw [cell_of_row _ _ _ _ _ _ HF111.out]; rfl
            have hc115 : w11.cell? ⟨wr.heap.size, 2, none⟩ = some (.int .i64 d) := by rw [cell_of_row _ _ _ _ _ _ HF111.out]; rfl
            have hc116 : w11.cell? ⟨wr.heap.size, 3, none⟩ = some (.string t) := by rw [cell_of_row _ _ _ _ _ _ HF111.out]; rfl
            go_wp2_with fail
            go_ret
            exact ⟨retI HR.out, HB112.out⟩
          · have HR := Lib.hid (show prE s (ps.drop (k + 1)) = prE ⟨#[]⟩ ps by rw [← HS.out, HA.out, if_neg HNB.out, if_neg (by rw [show leS (s, a, d, t).1 p = false from hg]; simp)])
            clear hg
            have hc101 : wr.cell? ⟨b, off + k * 4, none⟩ = some (.string s) := (H.out.below HB.out).cellAt HX.out hlt 0 _ rfl
            have hc102 : wr.cell? ⟨b, off + k * 4 + 1, none⟩ = some (.int .i64 a) := (H.out.below HB.out).cellAt HX.out hlt 1 _ rfl
            have hc103 : wr.cell? ⟨b, off + k * 4 + 2, none⟩ = some (.int .i64 d) := (H.out.below HB.out).cellAt HX.out hlt 2 _ rfl
            have hc104 : wr.cell? ⟨b, off + k * 4 + 3, none⟩ = some (.string t) := (H.out.below HB.out).cellAt HX.out hlt 3 _ rfl
            have HF105 := Lib.hid (blk_new wr (.cells #[.string s, .int .i64 a, .int .i64 d, .string t] 91 (0, 0)))
            have HB106 := Lib.hid (HB.out.alloc HB.out.size (.cells #[.string s, .int .i64 a, .int .i64 d, .string t] 91 (0, 0)))
            clear HB
            have hc107 : (wr.alloc (.cells #[.string s, .int .i64 a, .int .i64 d, .string t] 91 (0, 0))).cell? ⟨wr.heap.size, 0, none⟩ = some (.string s) := by rw [cell_of_row _ _ _ _ _ _ HF105.out]; rfl
            have hc108 : (wr.alloc (.cells #[.string s, .int .i64 a, .int .i64 d, .string t] 91 (0, 0))).cell? ⟨wr.heap.size, 1, none⟩ = some (.int .i64 a) := by rw [cell_of_row _ _ _ _ _ _ HF105.out]; rfl
            have hc109 : (wr.alloc (.cells #[.string s, .int .i64 a, .int .i64 d, .string t] 91 (0, 0))).cell? ⟨wr.heap.size, 2, none⟩ = some (.int .i64 d) := by rw [cell_of_row _ _ _ _ _ _ HF105.out]; rfl
            have hc110 : (wr.alloc (.cells #[.string s, .int .i64 a, .int .i64 d, .string t] 91 (0, 0))).cell? ⟨wr.heap.size, 3, none⟩ = some (.string t) := by rw [cell_of_row _ _ _ _ _ _ HF105.out]; rfl
            go_wp2_with fail
            clear hc101 hc102 hc103 hc104 hc107 hc108 hc109 hc110
            refine (HST.out (wr.alloc (.cells #[.string s, .int .i64 a, .int .i64 d, .string t] 91 (0, 0)))).mono ?_
            rintro e w11 ⟨rfl, hb11⟩
            have HF111 := Lib.hid (blk_below HF105.out hb11)
            have HB112 := Lib.hid (HB106.out.trans (hb11.mono HB106.out.size))
            clear hb11 HB106 HF105
            have hc113 : w11.cell? ⟨wr.heap.size, 0, none⟩ = some (.string s) := by rw [cell_of_row _ _ _ _ _ _ HF111.out]; rfl
            have hc114 : w11.cell? ⟨wr.heap.size, 1, none⟩ = some (.int .i64 a) := by rw [cell_of_row _ _ _ _ _ _ HF111.out]; rfl
            have hc115 : w11.cell? ⟨wr.heap.size, 2, none⟩ = some (.int .i64 d) := by rw [cell_of_row _ _ _ _ _ _ HF111.out]; rfl
            have hc116 : w11.cell? ⟨wr.heap.size, 3, none⟩ = some (.string t) := by rw [cell_of_row _ _ _ _ _ _ HF111.out]; rfl
            go_wp2_with fail
            go_roundw
            case rel => exact ⟨k + 1, s, rfl, by go_num, by omega, HR.out, HB112.out⟩
            case measure => simp [intOf] <;> omega
      · have hd1 : decide ((k : Int) < (n : Int)) = false := decide_eq_false (by omega)
        have HR := Lib.hid (show (0 : Int) = prW ps by rw [← HV.out, ← HS.out, prE_end p ps k (by rw [L.out]; omega)])
        go_wp2_with fail
        go_ret
        exact ⟨retI HR.out, HB.out⟩
/-- why labels and properties may not be -/
def rsW (ss : List ByteArray) (ps : List Pr) : Int := if 8 < ss.length then 5 else if rowE ⟨#[]⟩ ss ≠ 0 then rowE ⟨#[]⟩ ss else prW ps
theorem or2 (a b : Int) : orL [a, b] = if a ≠ 0 then a else b := by
  show (if a ≠ 0 then a else if b ≠ 0 then b else 0) = _
  split
  · rfl
  · split <;> omega
/-- labels and properties that came in -/
structure LP (w : World) (A : Option Addr) (n : Nat) (ss : List ByteArray) (A2 : Option Addr) (n2 : Nat) (ps : List Pr) : Prop where
  l : SlN w A n ss
  p : RdX prC 4 w A2 n2 ps
theorem LP.below {w w' : World} {A A2 : Option Addr} {n n2 : Nat} {ss : List ByteArray} {ps : List Pr} (h : LP w A n ss A2 n2 ps) (hb : Below w.heap.size w w') : LP w' A n ss A2 n2 ps := ⟨h.l.later hb, h.p.below hb⟩
/-- texts and numbers that are ones -/
structure LOk (n : Nat) (ss : List ByteArray) (n2 : Nat) (ps : List Pr) : Prop where
  n : n ≤ maxLen
  n2 : n2 ≤ maxLen
  s : ∀ s ∈ ss, s.size ≤ maxLen
  p : ∀ p ∈ ps, p.1.size ≤ maxLen
set_option maxRecDepth 100000 in
set_option maxHeartbeats 2000000 in
theorem cparts_any (A A2 : Option Addr) (n c n2 c2 : Nat) (ss : List ByteArray) (ps : List Pr) (w : World) (h : LP w A n ss A2 n2 ps) (k : LOk n ss n2 ps) :
    Calls Try.prog 69 #[.slice A n c, .slice A2 n2 c2] w fun e w' => e = .returned (.int .i64 (rsW ss ps)) ∧ Below w.heap.size w w' := by
  have H := Lib.hid h
  have L := Lib.hid h.l.1
  have hm := k.n
  have hm2 := k.n2
  unfold maxLen at hm hm2
  have HRW := Lib.hid (fun (W : World) (g : SlN W A n ss) => nrow_any A n c ss W g k.n k.s)
  have HPW := Lib.hid (fun (W : World) (g : RdX prC 4 W A2 n2 ps) => cprops_any A2 n2 c2 ps W g (by omega) k.p)
  clear h k
  by_cases h8 : 8 < n
  · have d1 : decide ((8 : Int) < (n : Int)) = true := decide_eq_true (by omega)
    have HV := Lib.hid (show (5 : Int) = rsW ss ps by unfold rsW; rw [if_pos (by rw [L.out]; exact h8)])
    go_enter Try.func69, Try.ntmps69
    go_wp2_with fail
    go_ret
    exact ⟨retI HV.out, Below.refl _ _⟩
  · have d1 : decide ((8 : Int) < (n : Int)) = false := decide_eq_false (by omega)
    obtain ⟨x, hx⟩ : ∃ x, x = rowE ⟨#[]⟩ ss := ⟨_, rfl⟩
    obtain ⟨y, hy⟩ : ∃ y, y = prW ps := ⟨_, rfl⟩
    have HV := Lib.hid (show orL [x, y] = rsW ss ps by rw [or2, hx, hy]; unfold rsW; rw [if_neg (show ¬ 8 < ss.length by rw [L.out]; exact h8)])
    rw [← hx] at HRW
    rw [← hy] at HPW
    clear hx hy h8
    have HB1 := Lib.hid (Below.refl w.heap.size w)
    go_enter Try.func69, Try.ntmps69
    go_wp2_with fail
    refine (HRW.out w (H.out.l.later HB1.out)).mono ?_
    rintro e w' ⟨rfl, rfl⟩
    go_wp2_with fail
    refine (HPW.out w (H.out.p.below HB1.out)).mono ?_
    rintro e w1 ⟨rfl, hb1⟩
    have HB2 := Lib.hid (HB1.out.trans (hb1.mono HB1.out.size))
    clear hb1 HB1 
    have HF3 := Lib.hid (blk_new w1 (.cells #[.int .i64 x, .int .i64 y] 44 (0, 0)))
    have HB4 := Lib.hid (HB2.out.alloc HB2.out.size (.cells #[.int .i64 x, .int .i64 y] 44 (0, 0)))
    clear HB2
    go_wp2_with fail
    refine (orE_any _ 0 2 2 [x, y] _ (rd_blk (f := ieC) (s := 1) (fun _ => rfl) [x, y] HF3.out rfl) (by omega)).mono ?_
    rintro e w' ⟨rfl, rfl⟩
    go_wp2_with fail
    go_ret
    exact ⟨retI HV.out, HB4.out⟩
/-- why a node may not be -/
def ndW (i : ByteArray) (ss : List ByteArray) (ps : List Pr) : Int := if nm i = false then 2 else rsW ss ps
def edW (i f g : ByteArray) (ss : List ByteArray) (ps : List Pr) : Int := if nm i = false then 2 else if nm f = false then 2 else if nm g = false then 2 else rsW ss ps
theorem or_nck (i : ByteArray) (l : List Int) : orL (nck i :: l) = if nm i = false then 2 else orL l := by
  show (if nck i ≠ 0 then nck i else orL l) = _
  cases h : nm i with
  | false => rw [nck_no i h]; rfl
  | true => rw [nck_yes i h]; rfl
theorem or1 (a : Int) : orL [a] = a := by
  show (if a ≠ 0 then a else 0) = a
  split <;> omega
set_option maxRecDepth 100000 in
set_option maxHeartbeats 2000000 in
theorem cnode_any (i : ByteArray) (A A2 : Option Addr) (n c n2 c2 : Nat) (ss : List ByteArray) (ps : List Pr) (w : World) (h : LP w A n ss A2 n2 ps) (k : LOk n ss n2 ps) (hi : i.size ≤ maxLen) :
    Calls Try.prog 60 #[.agg #[.string i, .slice A n c, .slice A2 n2 c2]] w fun e w' => e = .returned (.int .i64 (ndW i ss ps)) ∧ Below w.heap.size w w' := by
  have H := Lib.hid h
  have HPT := Lib.hid (fun (W : World) (g : LP W A n ss A2 n2 ps) => cparts_any A A2 n c n2 c2 ss ps W g k)
  have HNK := Lib.hid (fun W : World => ncheck_any i W hi)
  clear h k
  obtain ⟨x, hx⟩ : ∃ x, x = nck i := ⟨_, rfl⟩
  obtain ⟨y, hy⟩ : ∃ y, y = rsW ss ps := ⟨_, rfl⟩
  have HV := Lib.hid (show orL [x, y] = ndW i ss ps by rw [hx, or_nck, or1, hy]; rfl)
  rw [← hx] at HNK
  rw [← hy] at HPT
  clear hx hy
  have HB1 := Lib.hid (Below.refl w.heap.size w)
  go_enter Try.func60, Try.ntmps60
  have HF2 := Lib.hid (blk_new w (.cells #[.string i, .slice A n c, .slice A2 n2 c2] 51 (0, 0)))
  have HB3 := Lib.hid (HB1.out.alloc HB1.out.size (.cells #[.string i, .slice A n c, .slice A2 n2 c2] 51 (0, 0)))
  clear HB1
  have hc4 : (w.alloc (.cells #[.string i, .slice A n c, .slice A2 n2 c2] 51 (0, 0))).cell? ⟨w.heap.size, 0, none⟩ = some (.string i) := by rw [cell_of_row _ _ _ _ _ _ HF2.out]; rfl
  have hc5 : (w.alloc (.cells #[.string i, .slice A n c, .slice A2 n2 c2] 51 (0, 0))).cell? ⟨w.heap.size, 1, none⟩ = some (.slice A n c) := by rw [cell_of_row _ _ _ _ _ _ HF2.out]; rfl
  have hc6 : (w.alloc (.cells #[.string i, .slice A n c, .slice A2 n2 c2] 51 (0, 0))).cell? ⟨w.heap.size, 2, none⟩ = some (.slice A2 n2 c2) := by rw [cell_of_row _ _ _ _ _ _ HF2.out]; rfl
  go_wp2_with fail
  have hr7 := fun d os => cell_regrown hc4 d os
  have hr8 := fun d os => cell_regrown hc5 d os
  have hr9 := fun d os => cell_regrown hc6 d os
  refine wp_region_quiet_tail 8 (by kernel_rfl) (by kernel_rfl) ?_
  simp only [List.take_succ_cons, List.take_zero, List.drop_succ_cons, List.drop_zero]
  repeat (any_goals (first | go_big_quiet_step ((first | (go_at_call 68; with_reducible exact Calls.regrown_of (of_same (HNK.out _))) | (go_at_call 69; with_reducible exact Calls.regrown_of (HPT.out _ (H.out.below (HB3.out.trans ((below_regrown _ _ _).mono HB3.out.size))))))) | quiet_step ((first | (go_at_call 68; with_reducible exact Calls.regrown_of (of_same (HNK.out _))) | (go_at_call 69; with_reducible exact Calls.regrown_of (HPT.out _ (H.out.below (HB3.out.trans ((below_regrown _ _ _).mono HB3.out.size)))))))))
  refine wpQuiet_nil ?_
  intro w1 hw1
  have hb1 := below_anyY hw1
  clear hw1 hr7 hr8 hr9
  clear hc4 hc5 hc6
  have HF10 := Lib.hid (blk_below HF2.out hb1)
  have HB11 := Lib.hid (HB3.out.trans (hb1.mono HB3.out.size))
  clear hb1 HB3 HF2
  have HF12 := Lib.hid (blk_alloc HF10.out (.cells #[.int .i64 x, .int .i64 y] 44 (0, 0)))
  have HF13 := Lib.hid (blk_new w1 (.cells #[.int .i64 x, .int .i64 y] 44 (0, 0)))
  have HB14 := Lib.hid (HB11.out.alloc HB11.out.size (.cells #[.int .i64 x, .int .i64 y] 44 (0, 0)))
  clear HB11
  go_wp2_with fail
  refine (orE_any _ 0 2 2 [x, y] _ (rd_blk (f := ieC) (s := 1) (fun _ => rfl) [x, y] HF13.out rfl) (by omega)).mono ?_
  rintro e w' ⟨rfl, rfl⟩
  go_wp2_with fail
  go_ret
  exact ⟨retI HV.out, HB14.out⟩
set_option maxRecDepth 100000 in
set_option maxHeartbeats 2000000 in
theorem cedge_any (i f g : ByteArray) (A A2 : Option Addr) (n c n2 c2 : Nat) (ss : List ByteArray) (ps : List Pr) (w : World) (h : LP w A n ss A2 n2 ps) (k : LOk n ss n2 ps) (hi : i.size ≤ maxLen) (hf : f.size ≤ maxLen) (hg : g.size ≤ maxLen) :
    Calls Try.prog 61 #[.agg #[.string i, .string f, .string g, .slice A n c, .slice A2 n2 c2]] w fun e w' => e = .returned (.int .i64 (edW i f g ss ps)) ∧ Below w.heap.size w w' := by
  have H := Lib.hid h
  have HPT := Lib.hid (fun (W : World) (q : LP W A n ss A2 n2 ps) => cparts_any A A2 n c n2 c2 ss ps W q k)
  have HN1 := Lib.hid (fun W : World => ncheck_any i W hi)
  have HN2 := Lib.hid (fun W : World => ncheck_any f W hf)
  have HN3 := Lib.hid (fun W : World => ncheck_any g W hg)
  clear h k
  obtain ⟨x, hx⟩ : ∃ x, x = nck i := ⟨_, rfl⟩
  obtain ⟨x2, hx2⟩ : ∃ x, x = nck f := ⟨_, rfl⟩
  obtain ⟨x3, hx3⟩ : ∃ x, x = nck g := ⟨_, rfl⟩
  obtain ⟨y, hy⟩ : ∃ y, y = rsW ss ps := ⟨_, rfl⟩
  have HV := Lib.hid (show orL [x, x2, x3, y] = edW i f g ss ps by rw [hx, or_nck, hx2, or_nck, hx3, or_nck, or1, hy]; rfl)
  rw [← hx] at HN1
  rw [← hx2] at HN2
  rw [← hx3] at HN3
  rw [← hy] at HPT
  clear hx hx2 hx3 hy
  have HB1 := Lib.hid (Below.refl w.heap.size w)
  go_enter Try.func61, Try.ntmps61
  have HF2 := Lib.hid (blk_new w (.cells #[.string i, .string f, .string g, .slice A n c, .slice A2 n2 c2] 66 (0, 0)))
  have HB3 := Lib.hid (HB1.out.alloc HB1.out.size (.cells #[.string i, .string f, .string g, .slice A n c, .slice A2 n2 c2] 66 (0, 0)))
  clear HB1
  have hc4 : (w.alloc (.cells #[.string i, .string f, .string g, .slice A n c, .slice A2 n2 c2] 66 (0, 0))).cell? ⟨w.heap.size, 0, none⟩ = some (.string i) := by rw [cell_of_row _ _ _ _ _ _ HF2.out]; rfl
  have hc5 : (w.alloc (.cells #[.string i, .string f, .string g, .slice A n c, .slice A2 n2 c2] 66 (0, 0))).cell? ⟨w.heap.size, 1, none⟩ = some (.string f) := by rw [cell_of_row _ _ _ _ _ _ HF2.out]; rfl
  have hc6 : (w.alloc (.cells #[.string i, .string f, .string g, .slice A n c, .slice A2 n2 c2] 66 (0, 0))).cell? ⟨w.heap.size, 2, none⟩ = some (.string g) := by rw [cell_of_row _ _ _ _ _ _ HF2.out]; rfl
  have hc7 : (w.alloc (.cells #[.string i, .string f, .string g, .slice A n c, .slice A2 n2 c2] 66 (0, 0))).cell? ⟨w.heap.size, 3, none⟩ = some (.slice A n c) := by rw [cell_of_row _ _ _ _ _ _ HF2.out]; rfl
  have hc8 : (w.alloc (.cells #[.string i, .string f, .string g, .slice A n c, .slice A2 n2 c2] 66 (0, 0))).cell? ⟨w.heap.size, 4, none⟩ = some (.slice A2 n2 c2) := by rw [cell_of_row _ _ _ _ _ _ HF2.out]; rfl
  go_wp2_with fail
  have hr9 := fun d os => cell_regrown hc4 d os
  have hr10 := fun d os => cell_regrown hc5 d os
  have hr11 := fun d os => cell_regrown hc6 d os
  have hr12 := fun d os => cell_regrown hc7 d os
  have hr13 := fun d os => cell_regrown hc8 d os
  refine wp_region_quiet_tail 14 (by kernel_rfl) (by kernel_rfl) ?_
  simp only [List.take_succ_cons, List.take_zero, List.drop_succ_cons, List.drop_zero]
  repeat (any_goals (first | go_big_quiet_step ((first | (go_at_call 68; with_reducible exact Calls.regrown_of (of_same (HN1.out _))) | (go_at_call 68; with_reducible exact Calls.regrown_of (of_same (HN2.out _))) | (go_at_call 68; with_reducible exact Calls.regrown_of (of_same (HN3.out _))) | (go_at_call 69; with_reducible exact Calls.regrown_of (HPT.out _ (H.out.below (HB3.out.trans ((below_regrown _ _ _).mono HB3.out.size))))))) | quiet_step ((first | (go_at_call 68; with_reducible exact Calls.regrown_of (of_same (HN1.out _))) | (go_at_call 68; with_reducible exact Calls.regrown_of (of_same (HN2.out _))) | (go_at_call 68; with_reducible exact Calls.regrown_of (of_same (HN3.out _))) | (go_at_call 69; with_reducible exact Calls.regrown_of (HPT.out _ (H.out.below (HB3.out.trans ((below_regrown _ _ _).mono HB3.out.size)))))))))
  refine wpQuiet_nil ?_
  intro w1 hw1
  have hb1 := below_anyY hw1
  clear hw1 hr9 hr10 hr11 hr12 hr13
  clear hc4 hc5 hc6 hc7 hc8
  have HF14 := Lib.hid (blk_below HF2.out hb1)
  have HB15 := Lib.hid (HB3.out.trans (hb1.mono HB3.out.size))
  clear hb1 HB3 HF2
  have HF16 := Lib.hid (blk_alloc HF14.out (.cells #[.int .i64 x, .int .i64 x2, .int .i64 x3, .int .i64 y] 44 (0, 0)))
  have HF17 := Lib.hid (blk_new w1 (.cells #[.int .i64 x, .int .i64 x2, .int .i64 x3, .int .i64 y] 44 (0, 0)))
  have HB18 := Lib.hid (HB15.out.alloc HB15.out.size (.cells #[.int .i64 x, .int .i64 x2, .int .i64 x3, .int .i64 y] 44 (0, 0)))
  clear HB15
  go_wp2_with fail
  refine (orE_any _ 0 4 4 [x, x2, x3, y] _ (rd_blk (f := ieC) (s := 1) (fun _ => rfl) [x, x2, x3, y] HF17.out rfl) (by omega)).mono ?_
  rintro e w' ⟨rfl, rfl⟩
  go_wp2_with fail
  go_ret
  exact ⟨retI HV.out, HB18.out⟩
end Go.Proofs.Ytpjpegmjcgkonaa

namespace Go.Proofs.Ytpjpegmjcgkonaa
open Go.RowKit Vi Go.WideMaps Go.Maps

set_option maxRecDepth 100000 in
theorem gedges0 (m : Value) (w : World) : Calls Try.prog 49 #[.slice none 0 0, m] w fun e w' => e = .returned (.int .i64 0) ∧ w = w' := by
  go_enter Try.func49, Try.ntmps49
  go_wp2_with fail
  go_loop [15] (fun i => i = .int .i64 0) (fun _ => 0)
  case atStart => rfl
  case round =>
    subst hrel
    go_wp2_with fail
    go_ret
    exact ⟨rfl, rfl⟩
theorem cn1 (w : World) : Calls Try.prog 60 #[.agg #[.string ⟨#[97]⟩, .slice none 0 0, .slice none 0 0]] w fun e w' => e = .returned (.int .i64 0) ∧ Below w.heap.size w w' := by
  have h := cnode_any ⟨#[97]⟩ none none 0 0 0 0 [] [] w ⟨⟨rfl, fun h => by omega⟩, RdX.nil⟩ ⟨by decide, by decide, by simp, by simp⟩ (by decide)
  exact h
set_option maxRecDepth 100000 in
set_option maxHeartbeats 1000000 in
theorem gnodes1 (g B n : Nat) (w : World) (T : TypeId) (fr : Nat × Nat) (h : w.heap[g]? = some (.cells #[.string ⟨#[97]⟩, .slice none 0 0, .slice none 0 0] T fr)) (hm : w.heap[B]? = some (.map #[] 0)) (hn : n ≤ B) :
    Calls Try.prog 48 #[.slice (some ⟨g, 0, none⟩) 1 1, .map (some B)] w fun e w' => e = .returned (.int .i64 0) ∧ Below n w w' := by
  have H := Lib.hid h
  have HM := Lib.hid hm
  have hgl := lt_of_block h
  have a0 : w.cell? ⟨g, 0, none⟩ = some (.string ⟨#[97]⟩) := by rw [cell_of_row _ _ _ _ _ _ h]; rfl
  have a1 : w.cell? ⟨g, 1, none⟩ = some (.slice none 0 0) := by rw [cell_of_row _ _ _ _ _ _ h]; rfl
  have a2 : w.cell? ⟨g, 2, none⟩ = some (.slice none 0 0) := by rw [cell_of_row _ _ _ _ _ _ h]; rfl
  clear h hm
  have HC := Lib.hid (fun W : World => cn1 W)
  have HB1 := Lib.hid (Below.refl n w)
  go_enter Try.func48, Try.ntmps48
  go_wp2_with fail
  go_loopw [5, 11] (fun s i wr => (s = .string ⟨#[]⟩ ∧ i = .int .i64 0 ∧ wr = w) ∨ (s = .string ⟨#[97]⟩ ∧ i = .int .i64 1 ∧ Below n w wr)) (fun _ i _ => 1 - (intOf i).toNat)
  case atStart => exact Or.inl ⟨rfl, rfl, rfl⟩
  case round =>
    rcases hrel with ⟨rfl, rfl, rfl⟩ | ⟨rfl, rfl, hb⟩
    · go_wp2_with fail
      refine (HC.out _).mono ?_
      rintro e w1 ⟨rfl, hb1⟩
      have hsz := hb1.size
      have hF := blk_below (blk_new wr (.cells #[.string ⟨#[97]⟩, .slice none 0 0, .slice none 0 0] 51 (0, 0))) hb1
      have HM1 := Lib.hid (blk_below (blk_alloc HM.out (.cells #[.string ⟨#[97]⟩, .slice none 0 0, .slice none 0 0] 51 (0, 0))) hb1)
      have c0 : w1.cell? ⟨wr.heap.size, 0, none⟩ = some (.string ⟨#[97]⟩) := by rw [cell_of_row _ _ _ _ _ _ hF]; rfl
      have lt1 : Op.bytesLess [] [(97 : UInt8)] = true := by decide
      have lt2 : Op.bytesLess [(97 : UInt8)] [] = false := by decide
      have hj0 : 0 < maxLen := by unfold maxLen; omega
      have hXs : (⟨#[97]⟩ : ByteArray).size ≤ maxLen := by show 1 ≤ maxLen; unfold maxLen; omega
      have hBw : B < w1.heap.size := lt_of_block HM1.out
      have HOW : w1.ownsMap Try.prog 9 (fun _ => some ((.nil : DataW Nat), ([] : List MemPlace))) B 0 (.map []) := ⟨#[], 0, HM1.out, ⟨by simp, MapKept.stamped_empty 0, by simp⟩, Nat.le_refl _, rfl⟩
      have HBW := Lib.hid (((HB1.out.alloc (Nat.le_trans hn (Nat.le_of_lt (lt_of_block HM.out))) (.cells #[.string ⟨#[97]⟩, .slice none 0 0, .slice none 0 0] 51 (0, 0))).trans (hb1.mono (by simp; have := lt_of_block HM.out; omega))))
      clear hF hb1
      obtain ⟨w2, hrun, hown2, hgrow2⟩ := HOW.update (string_keyed Try.underlying9) Try.underlying93 hj0 (key := .string ⟨#[97]⟩) (val := .agg #[]) (keyOf_string_mk Try.underlying9 hXs) (d := .nil) (ps := []) rfl
      have HB2 := Lib.hid (HBW.out.grown hgrow2 (by omega) (fun k hk => by injection hk with hk; omega))
      clear hown2 HOW hgrow2
      go_wp2_with fail
      go_roundw
      case rel => exact Or.inr ⟨rfl, rfl, HB2.out⟩
      case measure => simp [intOf] <;> omega
    · go_wp2_with fail
      go_ret
      exact ⟨rfl, hb⟩
set_option maxRecDepth 100000 in
set_option maxHeartbeats 1000000 in
theorem gcheck1 (g : Nat) (w : World) (T : TypeId) (fr : Nat × Nat) (h : w.heap[g]? = some (.cells #[.string ⟨#[97]⟩, .slice none 0 0, .slice none 0 0] T fr)) :
    Calls Try.prog 33 #[.agg #[.slice (some ⟨g, 0, none⟩) 1 1, .slice none 0 0]] w fun e w' => e = .returned (.int .i64 0) ∧ Below w.heap.size w w' := by
  have HG := Lib.hid (blk_alloc (blk_alloc h (.cells #[.slice (some ⟨g, 0, none⟩) 1 1, .slice none 0 0] 40 (0, 0))) (.map #[] 0))
  have HM := Lib.hid (two_blk w (.cells #[.slice (some ⟨g, 0, none⟩) 1 1, .slice none 0 0] 40 (0, 0)) (.map #[] 0))
  have HF := Lib.hid (blk_alloc (blk_new w (.cells #[.slice (some ⟨g, 0, none⟩) 1 1, .slice none 0 0] 40 (0, 0))) (.map #[] 0))
  have HN := Lib.hid (gnodes1 g (w.heap.size + 1) (w.heap.size + 1) _ T fr HG.out HM.out (Nat.le_refl _))
  have HB0 := (Below.refl w.heap.size w).alloc (Nat.le_refl _) (.cells #[.slice (some ⟨g, 0, none⟩) 1 1, .slice none 0 0] 40 (0, 0))
  have HB := Lib.hid (HB0.alloc HB0.size (.map #[] 0))
  clear HB0 h
  have hmm := fun W : World => run_makeMap (P := Try.prog) 93 W
  go_enter Try.func33, Try.ntmps33
  go_wp2_with fail
  refine HN.out.mono ?_
  rintro e w1 ⟨rfl, hb1⟩
  have HF1 := (hb1.block w.heap.size (by omega)).trans HF.out
  have c1 : w1.cell? ⟨w.heap.size, 1, none⟩ = some (.slice none 0 0) := by rw [cell_of_row _ _ _ _ _ _ HF1]; rfl
  have HB1 := Lib.hid (HB.out.trans (hb1.mono (by omega)))
  clear hb1 HF1
  go_wp2_with fail
  refine (gedges0 _ w1).mono ?_
  rintro e w2 ⟨rfl, rfl⟩
  go_wp2_with fail
  go_ret
  exact ⟨rfl, HB1.out⟩
end Go.Proofs.Ytpjpegmjcgkonaa

namespace Go.Proofs.Ytpjpegmjcgkonaa
open Go.RowKit Vi

abbrev f1 : Fc := (1, ⟨#[97]⟩, ⟨#[]⟩, ⟨#[]⟩)
def bkO (v : Value) : Obj := .cells #[.slice none 0 0, v, .slice none 0 0, .slice none 0 0, .slice none 0 0, .slice none 0 0, .slice none 0 0] 72 (0, 0)
def AddP (B : Nat) (w : World) (e : Ending) (w' : World) : Prop := e = .returned (.tuple #[]) ∧ ∃ v, OwX fcC 4 32 w' w.heap.size v [f1] ∧ w'.heap[B]? = some (bkO v) ∧ KK [B] w w'
set_option maxRecDepth 100000 in
set_option maxHeartbeats 2000000 in
theorem fadd1 (B : Nat) (w : World) (h : w.heap[B]? = some (bkO (.slice none 0 0))) :
    Calls Try.prog 34 #[.pointer (some ⟨B, 0, none⟩), .agg #[.int .i64 1, .string ⟨#[97]⟩, .string ⟨#[]⟩, .string ⟨#[]⟩]] w (AddP B w) := by
  unfold bkO at h
  have hBl := lt_of_block h
  have HB := Lib.hid (blk_alloc h (.cells #[.int .i64 1, .string ⟨#[97]⟩, .string ⟨#[]⟩, .string ⟨#[]⟩] 32 (0, 0)))
  have HX := Lib.hid (blk_new w (.cells #[.int .i64 1, .string ⟨#[97]⟩, .string ⟨#[]⟩, .string ⟨#[]⟩] 32 (0, 0)))
  have HL := Lib.hid ((Below.refl w.heap.size w).alloc (Nat.le_refl _) (.cells #[.int .i64 1, .string ⟨#[97]⟩, .string ⟨#[]⟩, .string ⟨#[]⟩] 32 (0, 0)))
  clear h
  go_enter Try.func34, Try.ntmps34
  go_upto_region 1 with (fail)
  obtain ⟨v, hv⟩ : ∃ v, v = w.alloc (.cells #[.int .i64 1, .string ⟨#[97]⟩, .string ⟨#[]⟩, .string ⟨#[]⟩] 32 (0, 0)) := ⟨_, rfl⟩
  rw [← hv] at HB HX HL
  rw [← hv]
  clear hv
  have hXl := lt_of_block HX.out
  have hne : ¬ w.heap.size = B := by omega
  have b1 : v.cell? ⟨B, 1, none⟩ = some (.slice none 0 0) := by rw [cell_of_row _ _ _ _ _ _ HB.out]; rfl
  have x0 : v.cell? ⟨w.heap.size, 0, none⟩ = some (.int .i64 1) := by rw [cell_of_row _ _ _ _ _ _ HX.out]; rfl
  have x1 : v.cell? ⟨w.heap.size, 1, none⟩ = some (.string ⟨#[97]⟩) := by rw [cell_of_row _ _ _ _ _ _ HX.out]; rfl
  have x2 : v.cell? ⟨w.heap.size, 2, none⟩ = some (.string ⟨#[]⟩) := by rw [cell_of_row _ _ _ _ _ _ HX.out]; rfl
  have x3 : v.cell? ⟨w.heap.size, 3, none⟩ = some (.string ⟨#[]⟩) := by rw [cell_of_row _ _ _ _ _ _ HX.out]; rfl
  have b1A : (v.alloc (.cells #[.int .i64 1, .string ⟨#[97]⟩, .string ⟨#[]⟩, .string ⟨#[]⟩] 32 (0, 0))).cell? ⟨B, 1, none⟩ = some (.slice none 0 0) := by rw [cell_of_row _ _ _ _ _ _ (blk_alloc HB.out (.cells #[.int .i64 1, .string ⟨#[97]⟩, .string ⟨#[]⟩, .string ⟨#[]⟩] 32 (0, 0)))]; rfl
  have x0A : (v.alloc (.cells #[.int .i64 1, .string ⟨#[97]⟩, .string ⟨#[]⟩, .string ⟨#[]⟩] 32 (0, 0))).cell? ⟨w.heap.size, 0, none⟩ = some (.int .i64 1) := by rw [cell_of_row _ _ _ _ _ _ (blk_alloc HX.out (.cells #[.int .i64 1, .string ⟨#[97]⟩, .string ⟨#[]⟩, .string ⟨#[]⟩] 32 (0, 0)))]; rfl
  go_region_law (first
    | (refine step_appX ?_ (.tmp 12) (.tmp 14) 22 32 _ 56 ?_ Try.underlying22 info_fcB ?_ ?_ ?_ fcC_len fcC_one v.heap.size v ?_ ?_ (.slice none 0 0) [] ?_ (OwX.nil _) v.heap.size 1 f1 #[.int .i64 1, .string ⟨#[97]⟩, .string ⟨#[]⟩, .string ⟨#[]⟩] 32 (0, 0) ?_ (heap_alloc_new v _) ?_ ?_ ?_; (rfl); (rfl); (rfl); (omega); (omega); (exact ((Below.refl _ v).alloc (Nat.le_refl _) _).drew); (simp); (rfl); (rfl); (rfl); (simp); intro v7 w7 HO7 HB7 HZ7 HG7; have z7 : w7.frozen? ⟨B, 1, none⟩ = false := frozen_of_row _ _ _ _ _ ((HB7.out.block B (by omega)).trans HB.out); have q7 : w7.cell? ⟨B, 1, none⟩ = some (.slice none 0 0) := (cell_of_row _ _ _ _ _ _ ((HB7.out.block B (by omega)).trans HB.out)).trans rfl; have y7 : w7.cell? ⟨w.heap.size, 0, none⟩ = some (.int .i64 1) := (cell_of_row _ _ _ _ _ _ ((HB7.out.block w.heap.size (by omega)).trans HX.out)).trans rfl; obtain ⟨A7, n7, c7, rfl⟩ := HO7.out.sl3))
  all_goals
    have HK := Lib.hid ((HB7.out.block B (by omega)).trans HB.out)
    have HR : Hid ((w7.setCell ⟨B, 1, none⟩ (.slice A7 n7 c7)).heap[B]? = some (bkO (.slice A7 n7 c7))) := Lib.hid (by have h := heap_setCell_at (i := 1) (u := .slice A7 n7 c7) HK.out; exact h)
    have HKK := Lib.hid ((KK.refl [B] w7).set (b := B) (by simp) 1 (.slice A7 n7 c7))
    have HO := Lib.hid (HO7.out.kk (m := [B]) HKK.out (by simp; omega))
    have HBn := Lib.hid (((KK.of_below (l := [B]) HL.out).trans (KK.of_below HB7.out)).trans HKK.out)
    refine bodyPost_ret (v := .tuple #[]) (by simp [results, Try.results34, go_sem]) rfl ?_
    exact ⟨rfl, .slice A7 n7 c7, HO.out.mono (by omega), HR.out, HBn.out⟩
end Go.Proofs.Ytpjpegmjcgkonaa

namespace Go.Proofs.Ytpjpegmjcgkonaa
open Go.RowKit Vi

set_option maxRecDepth 100000 in
theorem fparts0 (p : Value) (x : ByteArray) (a b : Int) (w : World) : Calls Try.prog 35 #[p, .string x, .int .i64 a, .slice none 0 0, .int .i64 b, .slice none 0 0] w fun e w' => e = .returned (.tuple #[]) ∧ w = w' := by
  go_enter Try.func35, Try.ntmps35
  go_wp2_with fail
  go_loop [20] (fun i => i = .int .i64 0) (fun _ => 0)
  case atStart => rfl
  case round =>
    subst hrel
    go_wp2_with fail
    go_loop [33] (fun i => i = .int .i64 0) (fun _ => 0)
    case atStart => rfl
    case round =>
      subst hrel
      go_wp2_with fail
      exact ⟨rfl, .tuple #[], by simp [results, go_sem], rfl, rfl⟩
end Go.Proofs.Ytpjpegmjcgkonaa

namespace Go.Proofs.Ytpjpegmjcgkonaa
open Go.RowKit Vi

def RetOne (w : World) (e : Ending) (w' : World) : Prop := ∃ b off c, e = .returned (.slice (some ⟨b, off, none⟩) 1 c) ∧ RdX fcC 4 w' (some ⟨b, off, none⟩) 1 [f1] ∧ Below w.heap.size w w'
theorem RetF0.one {W w : World} {e : Ending} {w' : World} (h : RetF0 W [f1] e w') (hb : Below w.heap.size w W) : RetOne w e w' := by
  obtain ⟨v, rfl, hox, hb2⟩ := h
  obtain ⟨A, c, rfl, hrd, _, _⟩ := hox.rd fcC_len
  obtain ⟨b, off, rfl, _, _⟩ := hrd.2 (by decide)
  exact ⟨b, off, c, rfl, hrd, hb.trans (hb2.mono hb.size)⟩
def OfR (B : Nat) (V : World) (i : Value) (wr : World) : Prop := Below B V wr ∧ V.heap.size ≤ wr.heap.size ∧ (i = .int .i64 0 ∧ wr.heap[B]? = some (bkO (.slice none 0 0)) ∨ i = .int .i64 1 ∧ ∃ A c, RdX fcC 4 wr A 1 [f1] ∧ wr.heap[B]? = some (bkO (.slice A 1 c)))
theorem bk_row {W : World} {B c : Nat} {A : Option Addr} (h : W.heap[B]? = some (bkO (.slice A 1 c))) : RdX slFC 1 W (some ⟨B, 0, none⟩) 7 [⟨none, 0, 0, []⟩, ⟨A, 1, c, [f1]⟩, ⟨none, 0, 0, []⟩, ⟨none, 0, 0, []⟩, ⟨none, 0, 0, []⟩, ⟨none, 0, 0, []⟩, ⟨none, 0, 0, []⟩] :=
  rd_blk (f := slFC) (s := 1) (fun _ => rfl) _ h rfl
set_option maxRecDepth 100000 in
set_option maxHeartbeats 2000000 in
theorem fof1 (N : Nat) (w : World) (T : TypeId) (fr : Nat × Nat) (h : w.heap[N]? = some (.cells #[.string ⟨#[97]⟩, .slice none 0 0, .slice none 0 0] T fr)) :
    Calls Try.prog 17 #[.agg #[.slice (some ⟨N, 0, none⟩) 1 1, .slice none 0 0]] w (RetOne w) := by
  have HN := Lib.hid h
  clear h
  have HB1 := Lib.hid (Below.refl w.heap.size w)
  go_enter Try.func17, Try.ntmps17
  have HF2 := Lib.hid (blk_new w (.cells #[.slice (some ⟨N, 0, none⟩) 1 1, .slice none 0 0] 40 (0, 0)))
  have HB3 := Lib.hid (HB1.out.alloc HB1.out.size (.cells #[.slice (some ⟨N, 0, none⟩) 1 1, .slice none 0 0] 40 (0, 0)))
  clear HB1
  have HNA := Lib.hid (blk_alloc HN.out (.cells #[.slice (some ⟨N, 0, none⟩) 1 1, .slice none 0 0] 40 (0, 0)))
  have hc4 : (w.alloc (.cells #[.slice (some ⟨N, 0, none⟩) 1 1, .slice none 0 0] 40 (0, 0))).cell? ⟨w.heap.size, 0, none⟩ = some (.slice (some ⟨N, 0, none⟩) 1 1) := by rw [cell_of_row _ _ _ _ _ _ HF2.out]; rfl
  have hc5 : (w.alloc (.cells #[.slice (some ⟨N, 0, none⟩) 1 1, .slice none 0 0] 40 (0, 0))).cell? ⟨w.heap.size, 1, none⟩ = some (.slice none 0 0) := by rw [cell_of_row _ _ _ _ _ _ HF2.out]; rfl
  go_wp2_with fail
  refine (gcheck1 N (w.alloc (.cells #[.slice (some ⟨N, 0, none⟩) 1 1, .slice none 0 0] 40 (0, 0))) T fr HNA.out).mono ?_
  rintro e w1 ⟨rfl, hb1⟩
  clear hc4 hc5
  have HF6 := Lib.hid (blk_below HF2.out hb1)
  have HB7 := Lib.hid (HB3.out.trans (hb1.mono HB3.out.size))
  have HNB := Lib.hid (blk_below HNA.out hb1)
  clear hb1 HB3 HF2
  clear HNA HN
  go_upto_region 4 with (fail)
  have HNC := Lib.hid (blk_alloc HNB.out (bkO (.slice none 0 0)))
  have HF := Lib.hid (blk_alloc HF6.out (bkO (.slice none 0 0)))
  have HBK := Lib.hid (blk_new w1 (bkO (.slice none 0 0)))
  have HBB := Lib.hid (HB7.out.alloc HB7.out.size (bkO (.slice none 0 0)))
  have hp := lt_of_block HF6.out
  have hN := lt_of_block HNB.out
  have hw := HB7.out.size
  unfold bkO at HNC HF HBK HBB
  obtain ⟨V, hV⟩ : ∃ V, V = w1.alloc (.cells #[.slice none 0 0, .slice none 0 0, .slice none 0 0, .slice none 0 0, .slice none 0 0, .slice none 0 0, .slice none 0 0] 72 (0, 0)) := ⟨_, rfl⟩
  rw [← hV] at HNC HF HBK HBB
  try rw [← hV]
  obtain ⟨B, hB⟩ : ∃ B, B = w1.heap.size := ⟨_, rfl⟩
  rw [← hB] at HBK hp hN hw
  try rw [← hB]
  clear hV hB HNB HB7 HF6
  have c0 : V.cell? ⟨w.heap.size, 0, none⟩ = some (.slice (some ⟨N, 0, none⟩) 1 1) := by rw [cell_of_row _ _ _ _ _ _ HF.out]; rfl
  have c1 : V.cell? ⟨w.heap.size, 1, none⟩ = some (.slice none 0 0) := by rw [cell_of_row _ _ _ _ _ _ HF.out]; rfl
  go_wp2_with fail
  clear c0 c1
  go_loopw [14] (fun i wr => OfR B V i wr) (fun i _ => (1 - intOf i).toNat)
  case atStart => exact ⟨Below.refl _ _, Nat.le_refl _, Or.inl ⟨rfl, HBK.out⟩⟩
  case round =>
    obtain ⟨hb, hsz, ⟨rfl, hk⟩ | ⟨rfl, A, c, hrd, hk⟩⟩ := hrel
    · have HB := Lib.hid hb
      have HK := Lib.hid hk
      have HNr := Lib.hid ((hb.block N hN).trans HNC.out)
      clear hb hk
      have HB0 := Lib.hid (Below.refl wr.heap.size wr)
      have n0 : wr.cell? ⟨N, 0, none⟩ = some (.string ⟨#[97]⟩) := by rw [cell_of_row _ _ _ _ _ _ HNr.out]; rfl
      have n1 : wr.cell? ⟨N, 1, none⟩ = some (.slice none 0 0) := by rw [cell_of_row _ _ _ _ _ _ HNr.out]; rfl
      have n2 : wr.cell? ⟨N, 2, none⟩ = some (.slice none 0 0) := by rw [cell_of_row _ _ _ _ _ _ HNr.out]; rfl
      have HKA := Lib.hid (blk_alloc HK.out (.cells #[.string ⟨#[97]⟩, .slice none 0 0, .slice none 0 0] 51 (0, 0)))
      have HF101 := Lib.hid (blk_new wr (.cells #[.string ⟨#[97]⟩, .slice none 0 0, .slice none 0 0] 51 (0, 0)))
      have HB102 := Lib.hid (HB0.out.alloc HB0.out.size (.cells #[.string ⟨#[97]⟩, .slice none 0 0, .slice none 0 0] 51 (0, 0)))
      clear HB0
      have hc103 : (wr.alloc (.cells #[.string ⟨#[97]⟩, .slice none 0 0, .slice none 0 0] 51 (0, 0))).cell? ⟨wr.heap.size, 0, none⟩ = some (.string ⟨#[97]⟩) := by rw [cell_of_row _ _ _ _ _ _ HF101.out]; rfl
      have hc104 : (wr.alloc (.cells #[.string ⟨#[97]⟩, .slice none 0 0, .slice none 0 0] 51 (0, 0))).cell? ⟨wr.heap.size, 1, none⟩ = some (.slice none 0 0) := by rw [cell_of_row _ _ _ _ _ _ HF101.out]; rfl
      have hc105 : (wr.alloc (.cells #[.string ⟨#[97]⟩, .slice none 0 0, .slice none 0 0] 51 (0, 0))).cell? ⟨wr.heap.size, 2, none⟩ = some (.slice none 0 0) := by rw [cell_of_row _ _ _ _ _ _ HF101.out]; rfl
      go_wp2_with fail
      clear hc103 hc104 hc105
      clear n0 n1 n2
      have hBw := lt_of_block HK.out
      refine (fadd1 B _ HKA.out).mono ?_
      rintro e w2 ⟨rfl, v, hox, hk2, hkk⟩
      obtain ⟨A, c, rfl, hrd, _, _⟩ := hox.rd fcC_len
      have HRD := Lib.hid hrd
      have HK2 := Lib.hid hk2
      have hBn : ¬ wr.heap.size = B := by omega
      have HN2 := Lib.hid (hkk.blk HF101.out (by simpa using hBn))
      have HB2 := Lib.hid (hkk.below ((Below.refl wr.heap.size wr).alloc (Nat.le_refl _) (.cells #[.string ⟨#[97]⟩, .slice none 0 0, .slice none 0 0] 51 (0, 0)) |>.mono (Nat.le_of_lt hBw)) (by simp) (by have := hkk.size; simp <;> omega))
      have hz2 := hkk.size
      simp at hz2
      clear hkk hk2 hrd hox
      have d0 : w2.cell? ⟨wr.heap.size, 0, none⟩ = some (.string ⟨#[97]⟩) := by rw [cell_of_row _ _ _ _ _ _ HN2.out]; rfl
      have d1 : w2.cell? ⟨wr.heap.size, 1, none⟩ = some (.slice none 0 0) := by rw [cell_of_row _ _ _ _ _ _ HN2.out]; rfl
      have d2 : w2.cell? ⟨wr.heap.size, 2, none⟩ = some (.slice none 0 0) := by rw [cell_of_row _ _ _ _ _ _ HN2.out]; rfl
      go_wp2_with fail
      refine (fparts0 _ _ _ _ _).mono ?_
      rintro e w' ⟨rfl, rfl⟩
      clear d0 d1 d2
      go_wp2_with fail
      go_roundw
      case rel => exact ⟨HB.out.trans HB2.out, by omega, Or.inr ⟨rfl, A, c, HRD.out, HK2.out⟩⟩
      case measure => simp [intOf]
    · have HB := Lib.hid hb
      have HK := Lib.hid hk
      have HRD := Lib.hid hrd
      have HFr := Lib.hid ((hb.block w.heap.size hp).trans HF.out)
      clear hb hk hrd
      have d0 : wr.cell? ⟨w.heap.size, 0, none⟩ = some (.slice (some ⟨N, 0, none⟩) 1 1) := by rw [cell_of_row _ _ _ _ _ _ HFr.out]; rfl
      have d1 : wr.cell? ⟨w.heap.size, 1, none⟩ = some (.slice none 0 0) := by rw [cell_of_row _ _ _ _ _ _ HFr.out]; rfl
      go_wp2_with fail
      clear d0 d1
      go_loop [33] (fun i => i = .int .i64 0) (fun _ => 0)
      case atStart => rfl
      case round =>
        subst hrel
        go_wp2_with fail
        refine (fconcat_any B 0 7 7 _ wr (bk_row HK.out) ?_ (by omega) ?_).mono ?_
        · intro x hx
          simp at hx
          rcases hx with rfl | rfl | rfl | rfl | rfl | rfl | rfl
          all_goals first | exact RdX.nil | exact HRD.out
        · simp [totF]
        rintro e w9 hq
        have HQ := Lib.hid (RetF0.one (by simpa using hq) (HBB.out.trans (HB.out.mono hw)))
        obtain ⟨b, off, c9, rfl, hrd9, hb9⟩ := HQ.out
        have HR9 := Lib.hid hrd9
        have HB9 := Lib.hid hb9
        clear hrd9 hb9 hq HQ
        go_wp2_with fail
        go_ret
        exact ⟨b, off, c9, rfl, HR9.out, HB9.out⟩
end Go.Proofs.Ytpjpegmjcgkonaa

namespace Go.Proofs.Ytpjpegmjcgkonaa
open Go.RowKit Vi

set_option maxRecDepth 100000 in
set_option maxHeartbeats 1000000 in
theorem awake27 (w : World) : Calls Try.prog 7 #[] w fun e w' => e = .returned (.bool true) ∧ Below w.heap.size w w' := by
  have HN := Lib.hid (blk_new w (.cells #[.string ⟨#[97]⟩, .slice none 0 0, .slice none 0 0] 51 (0, 0)))
  have HB := Lib.hid ((Below.refl w.heap.size w).alloc (Nat.le_refl _) (.cells #[.string ⟨#[97]⟩, .slice none 0 0, .slice none 0 0] 51 (0, 0)))
  go_enter Try.func7, Try.ntmps7
  go_wp2_with fail
  refine (fof1 w.heap.size _ _ _ HN.out).mono ?_
  rintro e w1 ⟨b, off, c, rfl, hrd, hb⟩
  have HB1 := Lib.hid (HB.out.trans (hb.mono HB.out.size))
  have c0 : w1.cell? ⟨b, off, none⟩ = some (.int .i64 1) := by have h := hrd.cellAt (k := 0) (x := f1) rfl (by decide) 0 _ rfl; simpa using h
  have c1 : w1.cell? ⟨b, off + 1, none⟩ = some (.string ⟨#[97]⟩) := by have h := hrd.cellAt (k := 0) (x := f1) rfl (by decide) 1 _ rfl; simpa using h
  have c2 : w1.cell? ⟨b, off + 2, none⟩ = some (.string ⟨#[]⟩) := by have h := hrd.cellAt (k := 0) (x := f1) rfl (by decide) 2 _ rfl; simpa using h
  have c3 : w1.cell? ⟨b, off + 3, none⟩ = some (.string ⟨#[]⟩) := by have h := hrd.cellAt (k := 0) (x := f1) rfl (by decide) 3 _ rfl; simpa using h
  clear hrd hb
  go_wp2_with fail
  go_ret
  exact ⟨rfl, HB1.out⟩
end Go.Proofs.Ytpjpegmjcgkonaa

namespace Go.Proofs.Ytpjpegmjcgkonaa
open Go.RowKit Vi

def FewF (n : Nat) (w : World) (e : Ending) (w' : World) : Prop := ∃ b : Bool, e = .returned (.bool b) ∧ (b = true → n ≤ 120) ∧ Below w.heap.size w w'
set_option maxRecDepth 100000 in
set_option maxHeartbeats 4000000 in
theorem few27_any (A : Option Addr) (n c : Nat) (l : List Fc) (w : World) (h : RdX fcC 4 w A n l) (hm : n ≤ maxLen) :
    Calls Try.prog 5 #[.slice A n c] w (FewF n w) := by
  have H := Lib.hid h
  unfold maxLen at hm
  clear h
  have HB1 := Lib.hid (Below.refl w.heap.size w)
  go_enter Try.func5, Try.ntmps5
  go_wp2_with fail
  go_loopw [3, 4] (fun s i wr => ∃ k m : Nat, s = .int .i64 (m : Int) ∧ i = .int .i64 (k : Int) ∧ k ≤ n ∧ k ≤ 121 ∧ m ≤ 15000 * k ∧ Below w.heap.size w wr) (fun _ i _ => n - (intOf i).toNat)
  case atStart => exact ⟨0, 0, rfl, rfl, Nat.zero_le _, by omega, by omega, HB1.out⟩
  case round =>
    obtain ⟨k, m, rfl, rfl, hk, hk1, hmm, hb⟩ := hrel
    have HB := Lib.hid hb
    clear hb
    by_cases hlt : k < n ∧ k ≤ 120
    · obtain ⟨hlt, h20⟩ := hlt
      have hd1 : decide ((k : Int) < (n : Int)) = true := decide_eq_true (by omega)
      have hd2 : decide ((k : Int) ≤ 120) = true := decide_eq_true (by omega)
      obtain ⟨b, off, hl, rfl, hbb, _⟩ := (H.out.below HB.out).at hlt
      obtain ⟨x, hx⟩ : ∃ x, l[k] = x := ⟨_, rfl⟩
      have HX := Lib.hid (show l[k]? = some x by rw [List.getElem?_eq_getElem hl, hx])
      obtain ⟨a, s, t, v⟩ := x
      have hi0 : (0 : Int) ≤ (k : Int) := by omega
      clear hx
      by_cases hs0 : (5000 : Int) < (s.size : Int)
      · by_cases hs1 : (5000 : Int) < (t.size : Int)
        · by_cases hs2 : (5000 : Int) < (v.size : Int)
          · have hw0 : IntKind.i64.wrap ((m : Int) + 5000) = (m : Int) + 5000 := IntWalk.i64_in _ (by omega)
            have hw1 : IntKind.i64.wrap (((m : Int) + 5000) + 5000) = ((m : Int) + 5000) + 5000 := IntWalk.i64_in _ (by omega)
            have hw2 : IntKind.i64.wrap ((((m : Int) + 5000) + 5000) + 5000) = (((m : Int) + 5000) + 5000) + 5000 := IntWalk.i64_in _ (by omega)
            have hc101 : wr.cell? ⟨b, off + k * 4 + 1, none⟩ = some (.string s) := (H.out.below HB.out).cellAt HX.out hlt 1 _ rfl
            have hc102 : wr.cell? ⟨b, off + k * 4 + 2, none⟩ = some (.string t) := (H.out.below HB.out).cellAt HX.out hlt 2 _ rfl
            have hc103 : wr.cell? ⟨b, off + k * 4 + 3, none⟩ = some (.string v) := (H.out.below HB.out).cellAt HX.out hlt 3 _ rfl
            go_wp2_with fail
            have hr104 := fun d os => cell_regrown hc101 d os
            have hr105 := fun d os => cell_regrown hc102 d os
            have hr106 := fun d os => cell_regrown hc103 d os
            refine wp_region_quiet_below (by kernel_rfl) (by kernel_rfl) ?_
            repeat (any_goals (first | go_big_quiet_step (fail) | quiet_step (fail) | (refine wpQuiet_step (fun K hK => ?_); go_simp; refine hK _ ?_; clear hK K)))
            refine wpQuiet_nil ?_
            intro w11 hw11
            have hb11 := below_anyY hw11
            clear hw11 hr104 hr105 hr106
            clear hc101 hc102 hc103
            have HB2 := Lib.hid (HB.out.trans (hb11.mono HB.out.size))
            clear hb11
            go_wp2_with fail
            go_roundw
            case rel => exact ⟨k + 1, m + 5000 + 5000 + 5000, by go_num, by go_num, by omega, by omega, by omega, HB2.out⟩
            case measure => simp [intOf] <;> omega
          · have hw0 : IntKind.i64.wrap ((m : Int) + 5000) = (m : Int) + 5000 := IntWalk.i64_in _ (by omega)
            have hw1 : IntKind.i64.wrap (((m : Int) + 5000) + 5000) = ((m : Int) + 5000) + 5000 := IntWalk.i64_in _ (by omega)
            have hw2 : IntKind.i64.wrap ((((m : Int) + 5000) + 5000) + (v.size : Int)) = (((m : Int) + 5000) + 5000) + (v.size : Int) := IntWalk.i64_in _ (by omega)
            have hc101 : wr.cell? ⟨b, off + k * 4 + 1, none⟩ = some (.string s) := (H.out.below HB.out).cellAt HX.out hlt 1 _ rfl
            have hc102 : wr.cell? ⟨b, off + k * 4 + 2, none⟩ = some (.string t) := (H.out.below HB.out).cellAt HX.out hlt 2 _ rfl
            have hc103 : wr.cell? ⟨b, off + k * 4 + 3, none⟩ = some (.string v) := (H.out.below HB.out).cellAt HX.out hlt 3 _ rfl
            go_wp2_with fail
            have hr104 := fun d os => cell_regrown hc101 d os
            have hr105 := fun d os => cell_regrown hc102 d os
            have hr106 := fun d os => cell_regrown hc103 d os
            refine wp_region_quiet_below (by kernel_rfl) (by kernel_rfl) ?_
            repeat (any_goals (first | go_big_quiet_step (fail) | quiet_step (fail) | (refine wpQuiet_step (fun K hK => ?_); go_simp; refine hK _ ?_; clear hK K)))
            refine wpQuiet_nil ?_
            intro w11 hw11
            have hb11 := below_anyY hw11
            clear hw11 hr104 hr105 hr106
            clear hc101 hc102 hc103
            have HB2 := Lib.hid (HB.out.trans (hb11.mono HB.out.size))
            clear hb11
            go_wp2_with fail
            go_roundw
            case rel => exact ⟨k + 1, m + 5000 + 5000 + v.size, by go_num, by go_num, by omega, by omega, by omega, HB2.out⟩
            case measure => simp [intOf] <;> omega
        · by_cases hs2 : (5000 : Int) < (v.size : Int)
          · have hw0 : IntKind.i64.wrap ((m : Int) + 5000) = (m : Int) + 5000 := IntWalk.i64_in _ (by omega)
            have hw1 : IntKind.i64.wrap (((m : Int) + 5000) + (t.size : Int)) = ((m : Int) + 5000) + (t.size : Int) := IntWalk.i64_in _ (by omega)
            have hw2 : IntKind.i64.wrap ((((m : Int) + 5000) + (t.size : Int)) + 5000) = (((m : Int) + 5000) + (t.size : Int)) + 5000 := IntWalk.i64_in _ (by omega)
            have hc101 : wr.cell? ⟨b, off + k * 4 + 1, none⟩ = some (.string s) := (H.out.below HB.out).cellAt HX.out hlt 1 _ rfl
            have hc102 : wr.cell? ⟨b, off + k * 4 + 2, none⟩ = some (.string t) := (H.out.below HB.out).cellAt HX.out hlt 2 _ rfl
            have hc103 : wr.cell? ⟨b, off + k * 4 + 3, none⟩ = some (.string v) := (H.out.below HB.out).cellAt HX.out hlt 3 _ rfl
            go_wp2_with fail
            have hr104 := fun d os => cell_regrown hc101 d os
            have hr105 := fun d os => cell_regrown hc102 d os
            have hr106 := fun d os => cell_regrown hc103 d os
            refine wp_region_quiet_below (by kernel_rfl) (by kernel_rfl) ?_
            repeat (any_goals (first | go_big_quiet_step (fail) | quiet_step (fail) | (refine wpQuiet_step (fun K hK => ?_); go_simp; refine hK _ ?_; clear hK K)))
            refine wpQuiet_nil ?_
            intro w11 hw11
            have hb11 := below_anyY hw11
            clear hw11 hr104 hr105 hr106
            clear hc101 hc102 hc103
            have HB2 := Lib.hid (HB.out.trans (hb11.mono HB.out.size))
            clear hb11
            go_wp2_with fail
            go_roundw
            case rel => exact ⟨k + 1, m + 5000 + t.size + 5000, by go_num, by go_num, by omega, by omega, by omega, HB2.out⟩
            case measure => simp [intOf] <;> omega
          · have hw0 : IntKind.i64.wrap ((m : Int) + 5000) = (m : Int) + 5000 := IntWalk.i64_in _ (by omega)
            have hw1 : IntKind.i64.wrap (((m : Int) + 5000) + (t.size : Int)) = ((m : Int) + 5000) + (t.size : Int) := IntWalk.i64_in _ (by omega)
            have hw2 : IntKind.i64.wrap ((((m : Int) + 5000) + (t.size : Int)) + (v.size : Int)) = (((m : Int) + 5000) + (t.size : Int)) + (v.size : Int) := IntWalk.i64_in _ (by omega)
            have hc101 : wr.cell? ⟨b, off + k * 4 + 1, none⟩ = some (.string s) := (H.out.below HB.out).cellAt HX.out hlt 1 _ rfl
            have hc102 : wr.cell? ⟨b, off + k * 4 + 2, none⟩ = some (.string t) := (H.out.below HB.out).cellAt HX.out hlt 2 _ rfl
            have hc103 : wr.cell? ⟨b, off + k * 4 + 3, none⟩ = some (.string v) := (H.out.below HB.out).cellAt HX.out hlt 3 _ rfl
            go_wp2_with fail
            have hr104 := fun d os => cell_regrown hc101 d os
            have hr105 := fun d os => cell_regrown hc102 d os
            have hr106 := fun d os => cell_regrown hc103 d os
            refine wp_region_quiet_below (by kernel_rfl) (by kernel_rfl) ?_
            repeat (any_goals (first | go_big_quiet_step (fail) | quiet_step (fail) | (refine wpQuiet_step (fun K hK => ?_); go_simp; refine hK _ ?_; clear hK K)))
            refine wpQuiet_nil ?_
            intro w11 hw11
            have hb11 := below_anyY hw11
            clear hw11 hr104 hr105 hr106
            clear hc101 hc102 hc103
            have HB2 := Lib.hid (HB.out.trans (hb11.mono HB.out.size))
            clear hb11
            go_wp2_with fail
            go_roundw
            case rel => exact ⟨k + 1, m + 5000 + t.size + v.size, by go_num, by go_num, by omega, by omega, by omega, HB2.out⟩
            case measure => simp [intOf] <;> omega
      · by_cases hs1 : (5000 : Int) < (t.size : Int)
        · by_cases hs2 : (5000 : Int) < (v.size : Int)
          · have hw0 : IntKind.i64.wrap ((m : Int) + (s.size : Int)) = (m : Int) + (s.size : Int) := IntWalk.i64_in _ (by omega)
            have hw1 : IntKind.i64.wrap (((m : Int) + (s.size : Int)) + 5000) = ((m : Int) + (s.size : Int)) + 5000 := IntWalk.i64_in _ (by omega)
            have hw2 : IntKind.i64.wrap ((((m : Int) + (s.size : Int)) + 5000) + 5000) = (((m : Int) + (s.size : Int)) + 5000) + 5000 := IntWalk.i64_in _ (by omega)
            have hc101 : wr.cell? ⟨b, off + k * 4 + 1, none⟩ = some (.string s) := (H.out.below HB.out).cellAt HX.out hlt 1 _ rfl
            have hc102 : wr.cell? ⟨b, off + k * 4 + 2, none⟩ = some (.string t) := (H.out.below HB.out).cellAt HX.out hlt 2 _ rfl
            have hc103 : wr.cell? ⟨b, off + k * 4 + 3, none⟩ = some (.string v) := (H.out.below HB.out).cellAt HX.out hlt 3 _ rfl
            go_wp2_with fail
            have hr104 := fun d os => cell_regrown hc101 d os
            have hr105 := fun d os => cell_regrown hc102 d os
            have hr106 := fun d os => cell_regrown hc103 d os
            refine wp_region_quiet_below (by kernel_rfl) (by kernel_rfl) ?_
            repeat (any_goals (first | go_big_quiet_step (fail) | quiet_step (fail) | (refine wpQuiet_step (fun K hK => ?_); go_simp; refine hK _ ?_; clear hK K)))
            refine wpQuiet_nil ?_
            intro w11 hw11
            have hb11 := below_anyY hw11
            clear hw11 hr104 hr105 hr106
            clear hc101 hc102 hc103
            have HB2 := Lib.hid (HB.out.trans (hb11.mono HB.out.size))
            clear hb11
            go_wp2_with fail
            go_roundw
            case rel => exact ⟨k + 1, m + s.size + 5000 + 5000, by go_num, by go_num, by omega, by omega, by omega, HB2.out⟩
            case measure => simp [intOf] <;> omega
          · have hw0 : IntKind.i64.wrap ((m : Int) + (s.size : Int)) = (m : Int) + (s.size : Int) := IntWalk.i64_in _ (by omega)
            have hw1 : IntKind.i64.wrap (((m : Int) + (s.size : Int)) + 5000) = ((m : Int) + (s.size : Int)) + 5000 := IntWalk.i64_in _ (by omega)
            have hw2 : IntKind.i64.wrap ((((m : Int) + (s.size : Int)) + 5000) + (v.size : Int)) = (((m : Int) + (s.size : Int)) + 5000) + (v.size : Int) := IntWalk.i64_in _ (by omega)
            have hc101 : wr.cell? ⟨b, off + k * 4 + 1, none⟩ = some (.string s) := (H.out.below HB.out).cellAt HX.out hlt 1 _ rfl
            have hc102 : wr.cell? ⟨b, off + k * 4 + 2, none⟩ = some (.string t) := (H.out.below HB.out).cellAt HX.out hlt 2 _ rfl
            have hc103 : wr.cell? ⟨b, off + k * 4 + 3, none⟩ = some (.string v) := (H.out.below HB.out).cellAt HX.out hlt 3 _ rfl
            go_wp2_with fail
            have hr104 := fun d os => cell_regrown hc101 d os
            have hr105 := fun d os => cell_regrown hc102 d os
            have hr106 := fun d os => cell_regrown hc103 d os
            refine wp_region_quiet_below (by kernel_rfl) (by kernel_rfl) ?_
            repeat (any_goals (first | go_big_quiet_step (fail) | quiet_step (fail) | (refine wpQuiet_step (fun K hK => ?_); go_simp; refine hK _ ?_; clear hK K)))
            refine wpQuiet_nil ?_
            intro w11 hw11
            have hb11 := below_anyY hw11
            clear hw11 hr104 hr105 hr106
            clear hc101 hc102 hc103
            have HB2 := Lib.hid (HB.out.trans (hb11.mono HB.out.size))
            clear hb11
            go_wp2_with fail
            go_roundw
            case rel => exact ⟨k + 1, m + s.size + 5000 + v.size, by go_num, by go_num, by omega, by omega, by omega, HB2.out⟩
            case measure => simp [intOf] <;> omega
        · by_cases hs2 : (5000 : Int) < (v.size : Int)
          · have hw0 : IntKind.i64.wrap ((m : Int) + (s.size : Int)) = (m : Int) + (s.size : Int) := IntWalk.i64_in _ (by omega)
            have hw1 : IntKind.i64.wrap (((m : Int) + (s.size : Int)) + (t.size : Int)) = ((m : Int) + (s.size : Int)) + (t.size : Int) := IntWalk.i64_in _ (by omega)
            have hw2 : IntKind.i64.wrap ((((m : Int) + (s.size : Int)) + (t.size : Int)) + 5000) = (((m : Int) + (s.size : Int)) + (t.size : Int)) + 5000 := IntWalk.i64_in _ (by omega)
            have hc101 : wr.cell? ⟨b, off + k * 4 + 1, none⟩ = some (.string s) := (H.out.below HB.out).cellAt HX.out hlt 1 _ rfl
            have hc102 : wr.cell? ⟨b, off + k * 4 + 2, none⟩ = some (.string t) := (H.out.below HB.out).cellAt HX.out hlt 2 _ rfl
            have hc103 : wr.cell? ⟨b, off + k * 4 + 3, none⟩ = some (.string v) := (H.out.below HB.out).cellAt HX.out hlt 3 _ rfl
            go_wp2_with fail
            have hr104 := fun d os => cell_regrown hc101 d os
            have hr105 := fun d os => cell_regrown hc102 d os
            have hr106 := fun d os => cell_regrown hc103 d os
            refine wp_region_quiet_below (by kernel_rfl) (by kernel_rfl) ?_
            repeat (any_goals (first | go_big_quiet_step (fail) | quiet_step (fail) | (refine wpQuiet_step (fun K hK => ?_); go_simp; refine hK _ ?_; clear hK K)))
            refine wpQuiet_nil ?_
            intro w11 hw11
            have hb11 := below_anyY hw11
            clear hw11 hr104 hr105 hr106
            clear hc101 hc102 hc103
            have HB2 := Lib.hid (HB.out.trans (hb11.mono HB.out.size))
            clear hb11
            go_wp2_with fail
            go_roundw
            case rel => exact ⟨k + 1, m + s.size + t.size + 5000, by go_num, by go_num, by omega, by omega, by omega, HB2.out⟩
            case measure => simp [intOf] <;> omega
          · have hw0 : IntKind.i64.wrap ((m : Int) + (s.size : Int)) = (m : Int) + (s.size : Int) := IntWalk.i64_in _ (by omega)
            have hw1 : IntKind.i64.wrap (((m : Int) + (s.size : Int)) + (t.size : Int)) = ((m : Int) + (s.size : Int)) + (t.size : Int) := IntWalk.i64_in _ (by omega)
            have hw2 : IntKind.i64.wrap ((((m : Int) + (s.size : Int)) + (t.size : Int)) + (v.size : Int)) = (((m : Int) + (s.size : Int)) + (t.size : Int)) + (v.size : Int) := IntWalk.i64_in _ (by omega)
            have hc101 : wr.cell? ⟨b, off + k * 4 + 1, none⟩ = some (.string s) := (H.out.below HB.out).cellAt HX.out hlt 1 _ rfl
            have hc102 : wr.cell? ⟨b, off + k * 4 + 2, none⟩ = some (.string t) := (H.out.below HB.out).cellAt HX.out hlt 2 _ rfl
            have hc103 : wr.cell? ⟨b, off + k * 4 + 3, none⟩ = some (.string v) := (H.out.below HB.out).cellAt HX.out hlt 3 _ rfl
            go_wp2_with fail
            have hr104 := fun d os => cell_regrown hc101 d os
            have hr105 := fun d os => cell_regrown hc102 d os
            have hr106 := fun d os => cell_regrown hc103 d os
            refine wp_region_quiet_below (by kernel_rfl) (by kernel_rfl) ?_
            repeat (any_goals (first | go_big_quiet_step (fail) | quiet_step (fail) | (refine wpQuiet_step (fun K hK => ?_); go_simp; refine hK _ ?_; clear hK K)))
            refine wpQuiet_nil ?_
            intro w11 hw11
            have hb11 := below_anyY hw11
            clear hw11 hr104 hr105 hr106
            clear hc101 hc102 hc103
            have HB2 := Lib.hid (HB.out.trans (hb11.mono HB.out.size))
            clear hb11
            go_wp2_with fail
            go_roundw
            case rel => exact ⟨k + 1, m + s.size + t.size + v.size, by go_num, by go_num, by omega, by omega, by omega, HB2.out⟩
            case measure => simp [intOf] <;> omega
    · have hd0 : (decide ((k : Int) < (n : Int)) = false) ∨ (decide ((k : Int) < (n : Int)) = true ∧ decide ((k : Int) ≤ 120) = false) := by
        by_cases h1 : k < n
        · exact Or.inr ⟨decide_eq_true (by omega), decide_eq_false (by omega)⟩
        · exact Or.inl (decide_eq_false (by omega))
      by_cases h2 : n ≤ 120
      · have d2 : decide ((n : Int) ≤ 120) = true := decide_eq_true (by omega)
        rcases hd0 with hd1 | ⟨hd1, hd2⟩
        all_goals
          go_wp2_with fail
          all_goals
            go_ret
            exact ⟨_, rfl, (fun _ => h2), HB.out⟩
      · have d2 : decide ((n : Int) ≤ 120) = false := decide_eq_false (by omega)
        rcases hd0 with hd1 | ⟨hd1, hd2⟩
        all_goals
          go_wp2_with fail
          all_goals
            go_ret
            exact ⟨_, rfl, (fun h => by cases h), HB.out⟩
end Go.Proofs.Ytpjpegmjcgkonaa
