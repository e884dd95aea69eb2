/- refs' isNamed and Check, and the document's Wrong, over this translation. Condition: a slice that is no longer than a slice may be, names that are no longer than a text may be. -/
import Derived.Test.YtbjngbacnkmjhaaRFa
import Derived.Test.YtbjngbacnkmjhaaNb
import Derived.Test.YtbjngbacnkmjhaaPx
import Derived.IntWalk
import Derived.Deep.DeepCutAuto
namespace Go.Proofs.Ytbjngbacnkmjhaa
open Go.RowKit Vi

def okN (k : Int) (s : ByteArray) : Bool := (decide (k = 1) || decide (k = 2)) && nm s
def okR (r : Rf) : Bool := okN r.1 r.2.1 && !r.2.2.toList.isEmpty
def ordR : Option Rf → Rf → Bool
  | none, _ => true
  | some a, r => lessR a r
def wrE : Option Rf → List Rf → Int
  | _, [] => 0
  | p, r :: l => if okR r = false then 2 else if ordR p r = false then 4 else wrE (some r) l
def wrR (l : List Rf) : Int := if 64 < l.length then 5 else wrE none l
def prevR (l : List Rf) : Nat → Option Rf
  | 0 => none
  | k + 1 => l[k]?
theorem wrE_at (l : List Rf) (k : Nat) (h : k < l.length) : wrE (prevR l k) (l.drop k) = if okR l[k] = false then 2 else if ordR (prevR l k) l[k] = false then 4 else wrE (prevR l (k + 1)) (l.drop (k + 1)) := by
  rw [List.drop_eq_getElem_cons h]
  have : prevR l (k + 1) = some l[k] := by show l[k]? = _; rw [List.getElem?_eq_getElem h]
  rw [this]; rfl
theorem wrE_end (l : List Rf) (k : Nat) (h : l.length ≤ k) : wrE (prevR l k) (l.drop k) = 0 := by
  rw [List.drop_eq_nil_of_le h]; cases prevR l k <;> rfl
set_option maxRecDepth 100000 in
set_option maxHeartbeats 1000000 in
theorem isn_any (k : Int) (s : ByteArray) (w : World) (hs : s.size ≤ maxLen) : Calls Try.prog 146 #[.int .i64 k, .string s] w fun e w' => e = .returned (.bool (okN k s)) ∧ w = w' := by
  have HN := Lib.hid (fun W : World => ncheck_any s W hs)
  by_cases h1 : k = 1
  · have HV := Lib.hid (show okN k s = nm s by unfold okN; rw [decide_eq_true h1]; rfl)
    have e1 : (k == 1) = true := by simpa using h1
    cases hn : nm s
    case' true => rw [nck_yes _ hn] at HN
    case' false => rw [nck_no _ hn] at HN
    all_goals
      rw [hn] at HV
      clear h1 hn
      go_enter Try.func146, Try.ntmps146
      go_wp2_with fail
      refine (HN.out _).mono ?_
      rintro e w' ⟨rfl, rfl⟩
      go_wp2_with fail
      go_ret
      exact ⟨by first | (rw [HV.out]; done) | (rw [HV.out]; rfl), rfl⟩
  · have e1 : (k == 1) = false := by simpa using h1
    by_cases h2 : k = 2
    · have HV := Lib.hid (show okN k s = nm s by unfold okN; rw [decide_eq_true h2]; simp)
      have e2 : (k == 2) = true := by simpa using h2
      cases hn : nm s
      case' true => rw [nck_yes _ hn] at HN
      case' false => rw [nck_no _ hn] at HN
      all_goals
        rw [hn] at HV
        clear h1 h2 hn
        go_enter Try.func146, Try.ntmps146
        go_wp2_with fail
        refine (HN.out _).mono ?_
        rintro e w' ⟨rfl, rfl⟩
        go_wp2_with fail
        go_ret
        exact ⟨by first | (rw [HV.out]; done) | (rw [HV.out]; rfl), rfl⟩
    · have HV := Lib.hid (show okN k s = false by unfold okN; rw [decide_eq_false h1, decide_eq_false h2]; rfl)
      have e2 : (k == 2) = false := by simpa using h2
      clear h1 h2
      go_enter Try.func146, Try.ntmps146
      go_wp2_with fail
      go_ret
      exact ⟨by first | (rw [HV.out]; done) | (rw [HV.out]; rfl), rfl⟩
set_option maxRecDepth 100000 in
set_option maxHeartbeats 4000000 in
theorem rfcheck_any (A : Option Addr) (n c : Nat) (l : List Rf) (w : World) (h : RdX rfC 3 w A n l) (hn : n ≤ maxLen) (hz : ∀ r ∈ l, r.2.1.size ≤ maxLen) :
    Calls Try.prog 58 #[.slice A n c] w fun e w' => e = .returned (.int .i64 (wrR l)) ∧ Below w.heap.size w w' := by
  have H := Lib.hid h
  have LL := Lib.hid h.1
  have HZ := Lib.hid hz
  have HB1 := Lib.hid (Below.refl w.heap.size w)
  unfold maxLen at hn
  clear h hz
  by_cases g1 : n ≤ 64
  rotate_left
  · have d1 : decide ((64 : Int) < (n : Int)) = true := decide_eq_true (by omega)
    go_enter Try.func58, Try.ntmps58
    go_wp2_with fail
    go_ret
    exact ⟨by rw [show wrR l = 5 by unfold wrR; rw [if_pos (by rw [LL.out]; omega)]]; rfl, HB1.out⟩
  have d1 : decide ((64 : Int) < (n : Int)) = false := decide_eq_false (by omega)
  have HV := Lib.hid (show wrE none l = wrR l by unfold wrR; rw [if_neg (by rw [LL.out]; omega)])
  go_enter Try.func58, Try.ntmps58
  go_wp2_with fail
  clear d1
  go_loopw [10] (fun i wr => ∃ k : Nat, i = .int .i64 (k : Int) ∧ k ≤ n ∧ wrE (prevR l k) (l.drop k) = wrE none l ∧ Below w.heap.size w wr) (fun i _ => n - (intOf i).toNat)
  case atStart => exact ⟨0, rfl, Nat.zero_le _, rfl, HB1.out⟩
  case round =>
    clear HB1
    obtain ⟨k, rfl, hk, hs, hb⟩ := hrel
    have HS := Lib.hid hs
    have HB := Lib.hid hb
    clear hs hb
    by_cases hlt : k < n
    · have hd1 : decide ((k : Int) < (n : Int)) = true := decide_eq_true (by omega)
      have hl : k < l.length := by rw [LL.out]; exact hlt
      obtain ⟨b, off, _, rfl, hbb, _⟩ := (H.out.below HB.out).at hlt
      have HA := Lib.hid (wrE_at l k hl)
      have HZK := Lib.hid (HZ.out _ (List.getElem_mem hl))
      obtain ⟨x, hx⟩ : ∃ x, l[k] = x := ⟨_, rfl⟩
      have HX := Lib.hid (show l[k]? = some x by rw [List.getElem?_eq_getElem hl, hx])
      rw [hx] at HA HZK
      clear hx
      obtain ⟨x1, x2, x3⟩ := x
      have hzk : x2.size ≤ maxLen := HZK.out
      have hi0 : (0 : Int) ≤ (k : Int) := by omega
      have hi1 : (k : Int) < (n : Int) := by omega
      have HIN := Lib.hid (fun W : World => isn_any x1 x2 W hzk)
      cases hok : okN x1 x2 with
      | false =>
        have HR := Lib.hid (show (2 : Int) = wrR l by rw [← HV.out, ← HS.out, HA.out, if_pos (by unfold okR; rw [show okN (x1, x2, x3).1 (x1, x2, x3).2.1 = false from hok]; rfl)])
        rw [hok] at HIN
        clear hok
        have hc101 : wr.cell? ⟨b, off + k * 3, none⟩ = some (.int .i64 x1) := (H.out.below HB.out).cellAt HX.out hlt 0 _ rfl
        have hc102 : wr.cell? ⟨b, off + k * 3 + 1, none⟩ = some (.string x2) := (H.out.below HB.out).cellAt HX.out hlt 1 _ rfl
        have hc103 : wr.cell? ⟨b, off + k * 3 + 2, none⟩ = some (.string x3) := (H.out.below HB.out).cellAt HX.out hlt 2 _ rfl
        have HF104 := Lib.hid (blk_new wr (.cells #[.int .i64 x1, .string x2, .string x3] 97 (0, 0)))
        have HB105 := Lib.hid (HB.out.alloc HB.out.size (.cells #[.int .i64 x1, .string x2, .string x3] 97 (0, 0)))
        clear HB
        have hc106 : (wr.alloc (.cells #[.int .i64 x1, .string x2, .string x3] 97 (0, 0))).cell? ⟨wr.heap.size, 0, none⟩ = some (.int .i64 x1) := by rw [cell_of_row _ _ _ _ _ _ HF104.out]; rfl
        have hc107 : (wr.alloc (.cells #[.int .i64 x1, .string x2, .string x3] 97 (0, 0))).cell? ⟨wr.heap.size, 1, none⟩ = some (.string x2) := by rw [cell_of_row _ _ _ _ _ _ HF104.out]; rfl
        have hc108 : (wr.alloc (.cells #[.int .i64 x1, .string x2, .string x3] 97 (0, 0))).cell? ⟨wr.heap.size, 2, none⟩ = some (.string x3) := by rw [cell_of_row _ _ _ _ _ _ HF104.out]; rfl
        go_wp2_with fail
        refine (HIN.out _).mono ?_
        rintro e w' ⟨rfl, rfl⟩
        go_wp2_with fail
        go_ret
        exact ⟨by first | (rw [← HR.out]; done) | (rw [← HR.out]; rfl), HB105.out⟩
      | true =>
        rw [hok] at HIN
        cases hem : x3.toList.isEmpty with
        | true =>
          have HR := Lib.hid (show (2 : Int) = wrR l by rw [← HV.out, ← HS.out, HA.out, if_pos (by unfold okR; rw [show (x1, x2, x3).2.2.toList.isEmpty = true from hem]; simp)])
          clear hok
          have hc101 : wr.cell? ⟨b, off + k * 3, none⟩ = some (.int .i64 x1) := (H.out.below HB.out).cellAt HX.out hlt 0 _ rfl
          have hc102 : wr.cell? ⟨b, off + k * 3 + 1, none⟩ = some (.string x2) := (H.out.below HB.out).cellAt HX.out hlt 1 _ rfl
          have hc103 : wr.cell? ⟨b, off + k * 3 + 2, none⟩ = some (.string x3) := (H.out.below HB.out).cellAt HX.out hlt 2 _ rfl
          have HF104 := Lib.hid (blk_new wr (.cells #[.int .i64 x1, .string x2, .string x3] 97 (0, 0)))
          have HB105 := Lib.hid (HB.out.alloc HB.out.size (.cells #[.int .i64 x1, .string x2, .string x3] 97 (0, 0)))
          clear HB
          have hc106 : (wr.alloc (.cells #[.int .i64 x1, .string x2, .string x3] 97 (0, 0))).cell? ⟨wr.heap.size, 0, none⟩ = some (.int .i64 x1) := by rw [cell_of_row _ _ _ _ _ _ HF104.out]; rfl
          have hc107 : (wr.alloc (.cells #[.int .i64 x1, .string x2, .string x3] 97 (0, 0))).cell? ⟨wr.heap.size, 1, none⟩ = some (.string x2) := by rw [cell_of_row _ _ _ _ _ _ HF104.out]; rfl
          have hc108 : (wr.alloc (.cells #[.int .i64 x1, .string x2, .string x3] 97 (0, 0))).cell? ⟨wr.heap.size, 2, none⟩ = some (.string x3) := by rw [cell_of_row _ _ _ _ _ _ HF104.out]; rfl
          go_wp2_with fail
          refine (HIN.out _).mono ?_
          rintro e w' ⟨rfl, rfl⟩
          go_wp2_with fail
          go_ret
          exact ⟨by first | (rw [← HR.out]; done) | (rw [← HR.out]; rfl), HB105.out⟩
        | false =>
          have HOK := Lib.hid (show ¬ okR (x1, x2, x3) = false by unfold okR; rw [show okN (x1, x2, x3).1 (x1, x2, x3).2.1 = true from hok, show (x1, x2, x3).2.2.toList.isEmpty = false from hem]; simp)
          clear hok
          rcases Nat.eq_zero_or_pos k with h0 | hpos
          · subst h0
            have HR := Lib.hid (show wrE (prevR l (0 + 1)) (l.drop (0 + 1)) = wrE none l by rw [← HS.out, HA.out, if_neg HOK.out, if_neg (by simp [prevR, ordR])])
            have hof : off + 0 * 3 = off := by omega
            have hc101 : wr.cell? ⟨b, off + 0 * 3, none⟩ = some (.int .i64 x1) := (H.out.below HB.out).cellAt HX.out hlt 0 _ rfl
            have hc101z : wr.cell? ⟨b, off, none⟩ = some (.int .i64 x1) := by have q := hc101; rw [hof] at q; exact q
            have hc102 : wr.cell? ⟨b, off + 0 * 3 + 1, none⟩ = some (.string x2) := (H.out.below HB.out).cellAt HX.out hlt 1 _ rfl
            have hc102z : wr.cell? ⟨b, off + 1, none⟩ = some (.string x2) := by have q := hc102; rw [hof] at q; exact q
            have hc103 : wr.cell? ⟨b, off + 0 * 3 + 2, none⟩ = some (.string x3) := (H.out.below HB.out).cellAt HX.out hlt 2 _ rfl
            have hc103z : wr.cell? ⟨b, off + 2, none⟩ = some (.string x3) := by have q := hc103; rw [hof] at q; exact q
            have HF104 := Lib.hid (blk_new wr (.cells #[.int .i64 x1, .string x2, .string x3] 97 (0, 0)))
            have HB105 := Lib.hid (HB.out.alloc HB.out.size (.cells #[.int .i64 x1, .string x2, .string x3] 97 (0, 0)))
            clear HB
            have hc106 : (wr.alloc (.cells #[.int .i64 x1, .string x2, .string x3] 97 (0, 0))).cell? ⟨wr.heap.size, 0, none⟩ = some (.int .i64 x1) := by rw [cell_of_row _ _ _ _ _ _ HF104.out]; rfl
            have hc107 : (wr.alloc (.cells #[.int .i64 x1, .string x2, .string x3] 97 (0, 0))).cell? ⟨wr.heap.size, 1, none⟩ = some (.string x2) := by rw [cell_of_row _ _ _ _ _ _ HF104.out]; rfl
            have hc108 : (wr.alloc (.cells #[.int .i64 x1, .string x2, .string x3] 97 (0, 0))).cell? ⟨wr.heap.size, 2, none⟩ = some (.string x3) := by rw [cell_of_row _ _ _ _ _ _ HF104.out]; rfl
            go_wp2_with fail
            refine (HIN.out _).mono ?_
            rintro e w' ⟨rfl, rfl⟩
            go_upto_region 8 with (fail)
            have hr109 := fun d os => cell_regrown hc101 d os
            have hr110 := fun d os => cell_regrown hc102 d os
            have hr111 := fun d os => cell_regrown hc103 d os
            have hr112 := fun d os => cell_regrown hc106 d os
            have hr113 := fun d os => cell_regrown hc107 d os
            have hr114 := fun d os => cell_regrown hc108 d os
            refine wp_region_quiet_below (by kernel_rfl) (by kernel_rfl) ?_
            repeat (any_goals (first | go_big_quiet_step (fail) | quiet_step (fail)))
            refine wpQuiet_nil ?_
            intro w11 hw11
            have hb11 := below_anyY hw11
            clear hw11 hr109 hr110 hr111 hr112 hr113 hr114
            clear hc101 hc102 hc103 hc106 hc107 hc108 hc101z hc102z hc103z
            have HF115 := Lib.hid (blk_below HF104.out hb11)
            have HB116 := Lib.hid (HB105.out.trans (hb11.mono HB105.out.size))
            clear hb11 HB105 HF104
            go_wp2_with fail
            go_roundw
            case rel => exact ⟨1, by go_num, by omega, HR.out, HB116.out⟩
            case measure => simp [intOf] <;> omega
          · obtain ⟨m, hkm⟩ : ∃ m, k = m + 1 := ⟨k - 1, by omega⟩
            have hmn : m < n := by omega
            have hlm : m < l.length := by rw [LL.out]; exact hmn
            obtain ⟨y, hy⟩ : ∃ y, l[m] = y := ⟨_, rfl⟩
            have HY := Lib.hid (show l[m]? = some y by rw [List.getElem?_eq_getElem hlm, hy])
            obtain ⟨y1, y2, y3⟩ := y
            have HPV := Lib.hid (show prevR l k = some (y1, y2, y3) by rw [hkm]; exact HY.out)
            have hm0 : (0 : Int) ≤ (m : Int) := by omega
            have hm1 : (m : Int) < (n : Int) := by omega
            have hwk : IntKind.i64.wrap ((k : Int) - 1) = (m : Int) := by rw [IntWalk.i64_in _ (by omega)]; omega
            have hk0 : decide ((0 : Int) < (k : Int)) = true := decide_eq_true (by omega)
            have HF := Lib.hid (fun W : World => rfcmp_any y1 y2 y3 x1 x2 x3 W)
            have HKM := Lib.hid hkm
            have hk0n : decide (0 < k) = true := decide_eq_true hpos
            clear hy hkm
            cases hp : lessR (y1, y2, y3) (x1, x2, x3) with
            | true =>
              have HR := Lib.hid (show wrE (prevR l (k + 1)) (l.drop (k + 1)) = wrE none l by rw [← HS.out, HA.out, if_neg HOK.out, if_neg (by rw [HPV.out]; show ¬ lessR _ _ = false; rw [hp]; simp)])
              have HC := Lib.hid (cmpR_less hp)
              rw [HC.out] at HF
              clear hp HC
              have hc101 : wr.cell? ⟨b, off + k * 3, none⟩ = some (.int .i64 x1) := (H.out.below HB.out).cellAt HX.out hlt 0 _ rfl
              have hc102 : wr.cell? ⟨b, off + k * 3 + 1, none⟩ = some (.string x2) := (H.out.below HB.out).cellAt HX.out hlt 1 _ rfl
              have hc103 : wr.cell? ⟨b, off + k * 3 + 2, none⟩ = some (.string x3) := (H.out.below HB.out).cellAt HX.out hlt 2 _ rfl
              have HF104 := Lib.hid (blk_new wr (.cells #[.int .i64 x1, .string x2, .string x3] 97 (0, 0)))
              have HB105 := Lib.hid (HB.out.alloc HB.out.size (.cells #[.int .i64 x1, .string x2, .string x3] 97 (0, 0)))
              clear HB
              have hc106 : (wr.alloc (.cells #[.int .i64 x1, .string x2, .string x3] 97 (0, 0))).cell? ⟨wr.heap.size, 0, none⟩ = some (.int .i64 x1) := by rw [cell_of_row _ _ _ _ _ _ HF104.out]; rfl
              have hc107 : (wr.alloc (.cells #[.int .i64 x1, .string x2, .string x3] 97 (0, 0))).cell? ⟨wr.heap.size, 1, none⟩ = some (.string x2) := by rw [cell_of_row _ _ _ _ _ _ HF104.out]; rfl
              have hc108 : (wr.alloc (.cells #[.int .i64 x1, .string x2, .string x3] 97 (0, 0))).cell? ⟨wr.heap.size, 2, none⟩ = some (.string x3) := by rw [cell_of_row _ _ _ _ _ _ HF104.out]; rfl
              have hc109 : (wr.alloc (.cells #[.int .i64 x1, .string x2, .string x3] 97 (0, 0))).cell? ⟨b, off + m * 3, none⟩ = some (.int .i64 y1) := (H.out.below HB105.out).cellAt HY.out hmn 0 _ rfl
              have hc110 : (wr.alloc (.cells #[.int .i64 x1, .string x2, .string x3] 97 (0, 0))).cell? ⟨b, off + m * 3 + 1, none⟩ = some (.string y2) := (H.out.below HB105.out).cellAt HY.out hmn 1 _ rfl
              have hc111 : (wr.alloc (.cells #[.int .i64 x1, .string x2, .string x3] 97 (0, 0))).cell? ⟨b, off + m * 3 + 2, none⟩ = some (.string y3) := (H.out.below HB105.out).cellAt HY.out hmn 2 _ rfl
              go_wp2_with fail
              refine (HIN.out _).mono ?_
              rintro e w' ⟨rfl, rfl⟩
              go_upto_region 8 with (fail)
              have hr112 := fun d os => cell_regrown hc101 d os
              have hr113 := fun d os => cell_regrown hc102 d os
              have hr114 := fun d os => cell_regrown hc103 d os
              have hr115 := fun d os => cell_regrown hc106 d os
              have hr116 := fun d os => cell_regrown hc107 d os
              have hr117 := fun d os => cell_regrown hc108 d os
              have hr118 := fun d os => cell_regrown hc109 d os
              have hr119 := fun d os => cell_regrown hc110 d os
              have hr120 := fun d os => cell_regrown hc111 d os
              refine wp_region_quiet_below (by kernel_rfl) (by kernel_rfl) ?_
              repeat (any_goals (first | go_big_quiet_step ((go_at_call 57; with_reducible exact Calls.regrown_of (HF.out _))) | quiet_step ((go_at_call 57; with_reducible exact Calls.regrown_of (HF.out _)))))
              refine wpQuiet_nil ?_
              intro w11 hw11
              have hb11 := below_anyY hw11
              clear hw11 hr112 hr113 hr114 hr115 hr116 hr117 hr118 hr119 hr120
              clear hc101 hc102 hc103 hc106 hc107 hc108 hc109 hc110 hc111
              have HF121 := Lib.hid (blk_below HF104.out hb11)
              have HB122 := Lib.hid (HB105.out.trans (hb11.mono HB105.out.size))
              clear hb11 HB105 HF104
              clear hwk
              go_wp2_with fail
              go_roundw
              case rel => exact ⟨k + 1, by go_num, by omega, HR.out, HB122.out⟩
              case measure => simp [intOf] <;> omega
            | false =>
              have HR := Lib.hid (show (4 : Int) = wrR l by rw [← HV.out, ← HS.out, HA.out, if_neg HOK.out, if_pos (by rw [HPV.out]; exact hp)])
              have hcv := cmpR_not hp
              generalize cmpR (y1, y2, y3) (x1, x2, x3) = cv at HF hcv
              have dcv : decide (0 ≤ cv) = true := decide_eq_true hcv
              clear hp hcv
              have hc101 : wr.cell? ⟨b, off + k * 3, none⟩ = some (.int .i64 x1) := (H.out.below HB.out).cellAt HX.out hlt 0 _ rfl
              have hc102 : wr.cell? ⟨b, off + k * 3 + 1, none⟩ = some (.string x2) := (H.out.below HB.out).cellAt HX.out hlt 1 _ rfl
              have hc103 : wr.cell? ⟨b, off + k * 3 + 2, none⟩ = some (.string x3) := (H.out.below HB.out).cellAt HX.out hlt 2 _ rfl
              have HF104 := Lib.hid (blk_new wr (.cells #[.int .i64 x1, .string x2, .string x3] 97 (0, 0)))
              have HB105 := Lib.hid (HB.out.alloc HB.out.size (.cells #[.int .i64 x1, .string x2, .string x3] 97 (0, 0)))
              clear HB
              have hc106 : (wr.alloc (.cells #[.int .i64 x1, .string x2, .string x3] 97 (0, 0))).cell? ⟨wr.heap.size, 0, none⟩ = some (.int .i64 x1) := by rw [cell_of_row _ _ _ _ _ _ HF104.out]; rfl
              have hc107 : (wr.alloc (.cells #[.int .i64 x1, .string x2, .string x3] 97 (0, 0))).cell? ⟨wr.heap.size, 1, none⟩ = some (.string x2) := by rw [cell_of_row _ _ _ _ _ _ HF104.out]; rfl
              have hc108 : (wr.alloc (.cells #[.int .i64 x1, .string x2, .string x3] 97 (0, 0))).cell? ⟨wr.heap.size, 2, none⟩ = some (.string x3) := by rw [cell_of_row _ _ _ _ _ _ HF104.out]; rfl
              have hc109 : (wr.alloc (.cells #[.int .i64 x1, .string x2, .string x3] 97 (0, 0))).cell? ⟨b, off + m * 3, none⟩ = some (.int .i64 y1) := (H.out.below HB105.out).cellAt HY.out hmn 0 _ rfl
              have hc110 : (wr.alloc (.cells #[.int .i64 x1, .string x2, .string x3] 97 (0, 0))).cell? ⟨b, off + m * 3 + 1, none⟩ = some (.string y2) := (H.out.below HB105.out).cellAt HY.out hmn 1 _ rfl
              have hc111 : (wr.alloc (.cells #[.int .i64 x1, .string x2, .string x3] 97 (0, 0))).cell? ⟨b, off + m * 3 + 2, none⟩ = some (.string y3) := (H.out.below HB105.out).cellAt HY.out hmn 2 _ rfl
              go_wp2_with fail
              refine (HIN.out _).mono ?_
              rintro e w' ⟨rfl, rfl⟩
              go_upto_region 8 with (fail)
              have hr112 := fun d os => cell_regrown hc101 d os
              have hr113 := fun d os => cell_regrown hc102 d os
              have hr114 := fun d os => cell_regrown hc103 d os
              have hr115 := fun d os => cell_regrown hc106 d os
              have hr116 := fun d os => cell_regrown hc107 d os
              have hr117 := fun d os => cell_regrown hc108 d os
              have hr118 := fun d os => cell_regrown hc109 d os
              have hr119 := fun d os => cell_regrown hc110 d os
              have hr120 := fun d os => cell_regrown hc111 d os
              refine wp_region_quiet_below (by kernel_rfl) (by kernel_rfl) ?_
              repeat (any_goals (first | go_big_quiet_step ((go_at_call 57; with_reducible exact Calls.regrown_of (HF.out _))) | quiet_step ((go_at_call 57; with_reducible exact Calls.regrown_of (HF.out _)))))
              refine wpQuiet_nil ?_
              intro w11 hw11
              have hb11 := below_anyY hw11
              clear hw11 hr112 hr113 hr114 hr115 hr116 hr117 hr118 hr119 hr120
              clear hc101 hc102 hc103 hc106 hc107 hc108 hc109 hc110 hc111
              have HF121 := Lib.hid (blk_below HF104.out hb11)
              have HB122 := Lib.hid (HB105.out.trans (hb11.mono HB105.out.size))
              clear hb11 HB105 HF104
              clear hwk
              go_wp2_with fail
              go_ret
              exact ⟨by first | (rw [← HR.out]; done) | (rw [← HR.out]; rfl), HB122.out⟩
    · have hd1 : decide ((k : Int) < (n : Int)) = false := decide_eq_false (by omega)
      have HR := Lib.hid (show (0 : Int) = wrR l by rw [← HV.out, ← HS.out, wrE_end l k (by rw [LL.out]; omega)])
      go_wp2_with fail
      go_ret
      exact ⟨by first | (rw [← HR.out]; done) | (rw [← HR.out]; rfl), HB.out⟩
set_option maxRecDepth 100000 in
set_option maxHeartbeats 4000000 in
theorem rfwrong_any (A : Option Addr) (n c : Nat) (l : List Rf) (w : World) (h : RdX rfC 3 w A n l) (hn : n ≤ maxLen) (hz : ∀ r ∈ l, r.2.1.size ≤ maxLen) :
    Calls Try.prog 59 #[.slice A n c] w fun e w' => e = .returned (.int .i64 (wrR l)) ∧ Below w.heap.size w w' := by
  have H := Lib.hid h
  have LL := Lib.hid h.1
  have HZ := Lib.hid hz
  have HB1 := Lib.hid (Below.refl w.heap.size w)
  unfold maxLen at hn
  clear h hz
  by_cases g1 : n ≤ 64
  rotate_left
  · have d1 : decide ((64 : Int) < (n : Int)) = true := decide_eq_true (by omega)
    go_enter Try.func59, Try.ntmps59
    go_wp2_with fail
    go_ret
    exact ⟨by rw [show wrR l = 5 by unfold wrR; rw [if_pos (by rw [LL.out]; omega)]]; rfl, HB1.out⟩
  have d1 : decide ((64 : Int) < (n : Int)) = false := decide_eq_false (by omega)
  have HV := Lib.hid (show wrE none l = wrR l by unfold wrR; rw [if_neg (by rw [LL.out]; omega)])
  go_enter Try.func59, Try.ntmps59
  go_wp2_with fail
  clear d1
  go_loopw [10] (fun i wr => ∃ k : Nat, i = .int .i64 (k : Int) ∧ k ≤ n ∧ wrE (prevR l k) (l.drop k) = wrE none l ∧ Below w.heap.size w wr) (fun i _ => n - (intOf i).toNat)
  case atStart => exact ⟨0, rfl, Nat.zero_le _, rfl, HB1.out⟩
  case round =>
    clear HB1
    obtain ⟨k, rfl, hk, hs, hb⟩ := hrel
    have HS := Lib.hid hs
    have HB := Lib.hid hb
    clear hs hb
    by_cases hlt : k < n
    · have hd1 : decide ((k : Int) < (n : Int)) = true := decide_eq_true (by omega)
      have hl : k < l.length := by rw [LL.out]; exact hlt
      obtain ⟨b, off, _, rfl, hbb, _⟩ := (H.out.below HB.out).at hlt
      have HA := Lib.hid (wrE_at l k hl)
      have HZK := Lib.hid (HZ.out _ (List.getElem_mem hl))
      obtain ⟨x, hx⟩ : ∃ x, l[k] = x := ⟨_, rfl⟩
      have HX := Lib.hid (show l[k]? = some x by rw [List.getElem?_eq_getElem hl, hx])
      rw [hx] at HA HZK
      clear hx
      obtain ⟨x1, x2, x3⟩ := x
      have hzk : x2.size ≤ maxLen := HZK.out
      have hi0 : (0 : Int) ≤ (k : Int) := by omega
      have hi1 : (k : Int) < (n : Int) := by omega
      have HIN := Lib.hid (fun W : World => refIs_any x2 W hzk)
      by_cases q1 : x1 < 1
      · have d1 : decide (x1 < 1) = true := decide_eq_true q1
        have HR := Lib.hid (show (2 : Int) = wrR l by rw [← HV.out, ← HS.out, HA.out, if_pos (by unfold okR okN; rw [decide_eq_false (show ¬ x1 = 1 by omega), decide_eq_false (show ¬ x1 = 2 by omega)]; rfl)])
        have hc101 : wr.cell? ⟨b, off + k * 3, none⟩ = some (.int .i64 x1) := (H.out.below HB.out).cellAt HX.out hlt 0 _ rfl
        have hc102 : wr.cell? ⟨b, off + k * 3 + 1, none⟩ = some (.string x2) := (H.out.below HB.out).cellAt HX.out hlt 1 _ rfl
        have hc103 : wr.cell? ⟨b, off + k * 3 + 2, none⟩ = some (.string x3) := (H.out.below HB.out).cellAt HX.out hlt 2 _ rfl
        have HF104 := Lib.hid (blk_new wr (.cells #[.int .i64 x1, .string x2, .string x3] 97 (0, 0)))
        have HB105 := Lib.hid (HB.out.alloc HB.out.size (.cells #[.int .i64 x1, .string x2, .string x3] 97 (0, 0)))
        clear HB
        have hc106 : (wr.alloc (.cells #[.int .i64 x1, .string x2, .string x3] 97 (0, 0))).cell? ⟨wr.heap.size, 0, none⟩ = some (.int .i64 x1) := by rw [cell_of_row _ _ _ _ _ _ HF104.out]; rfl
        have hc107 : (wr.alloc (.cells #[.int .i64 x1, .string x2, .string x3] 97 (0, 0))).cell? ⟨wr.heap.size, 1, none⟩ = some (.string x2) := by rw [cell_of_row _ _ _ _ _ _ HF104.out]; rfl
        have hc108 : (wr.alloc (.cells #[.int .i64 x1, .string x2, .string x3] 97 (0, 0))).cell? ⟨wr.heap.size, 2, none⟩ = some (.string x3) := by rw [cell_of_row _ _ _ _ _ _ HF104.out]; rfl
        go_wp2_with fail
        go_ret
        exact ⟨by first | (rw [← HR.out]; done) | (rw [← HR.out]; rfl), HB105.out⟩
      have d1 : decide (x1 < 1) = false := decide_eq_false q1
      by_cases q2 : 2 < x1
      · have d2 : decide (2 < x1) = true := decide_eq_true q2
        have HR := Lib.hid (show (2 : Int) = wrR l by rw [← HV.out, ← HS.out, HA.out, if_pos (by unfold okR okN; rw [decide_eq_false (show ¬ x1 = 1 by omega), decide_eq_false (show ¬ x1 = 2 by omega)]; rfl)])
        have hc101 : wr.cell? ⟨b, off + k * 3, none⟩ = some (.int .i64 x1) := (H.out.below HB.out).cellAt HX.out hlt 0 _ rfl
        have hc102 : wr.cell? ⟨b, off + k * 3 + 1, none⟩ = some (.string x2) := (H.out.below HB.out).cellAt HX.out hlt 1 _ rfl
        have hc103 : wr.cell? ⟨b, off + k * 3 + 2, none⟩ = some (.string x3) := (H.out.below HB.out).cellAt HX.out hlt 2 _ rfl
        have HF104 := Lib.hid (blk_new wr (.cells #[.int .i64 x1, .string x2, .string x3] 97 (0, 0)))
        have HB105 := Lib.hid (HB.out.alloc HB.out.size (.cells #[.int .i64 x1, .string x2, .string x3] 97 (0, 0)))
        clear HB
        have hc106 : (wr.alloc (.cells #[.int .i64 x1, .string x2, .string x3] 97 (0, 0))).cell? ⟨wr.heap.size, 0, none⟩ = some (.int .i64 x1) := by rw [cell_of_row _ _ _ _ _ _ HF104.out]; rfl
        have hc107 : (wr.alloc (.cells #[.int .i64 x1, .string x2, .string x3] 97 (0, 0))).cell? ⟨wr.heap.size, 1, none⟩ = some (.string x2) := by rw [cell_of_row _ _ _ _ _ _ HF104.out]; rfl
        have hc108 : (wr.alloc (.cells #[.int .i64 x1, .string x2, .string x3] 97 (0, 0))).cell? ⟨wr.heap.size, 2, none⟩ = some (.string x3) := by rw [cell_of_row _ _ _ _ _ _ HF104.out]; rfl
        go_wp2_with fail
        go_ret
        exact ⟨by first | (rw [← HR.out]; done) | (rw [← HR.out]; rfl), HB105.out⟩
      have d2 : decide (2 < x1) = false := decide_eq_false q2
      have HKK := Lib.hid (show (decide (x1 = 1) || decide (x1 = 2)) = true by
        rcases (show x1 = 1 ∨ x1 = 2 by omega) with e | e
        · rw [decide_eq_true e]; rfl
        · rw [decide_eq_true e]; simp)
      clear q1 q2
      cases hok : nm x2 with
      | false =>
        have HR := Lib.hid (show (2 : Int) = wrR l by rw [← HV.out, ← HS.out, HA.out, if_pos (by unfold okR okN; rw [show nm (x1, x2, x3).2.1 = false from hok]; simp)])
        rw [hok] at HIN
        clear hok
        have hc101 : wr.cell? ⟨b, off + k * 3, none⟩ = some (.int .i64 x1) := (H.out.below HB.out).cellAt HX.out hlt 0 _ rfl
        have hc102 : wr.cell? ⟨b, off + k * 3 + 1, none⟩ = some (.string x2) := (H.out.below HB.out).cellAt HX.out hlt 1 _ rfl
        have hc103 : wr.cell? ⟨b, off + k * 3 + 2, none⟩ = some (.string x3) := (H.out.below HB.out).cellAt HX.out hlt 2 _ rfl
        have HF104 := Lib.hid (blk_new wr (.cells #[.int .i64 x1, .string x2, .string x3] 97 (0, 0)))
        have HB105 := Lib.hid (HB.out.alloc HB.out.size (.cells #[.int .i64 x1, .string x2, .string x3] 97 (0, 0)))
        clear HB
        have hc106 : (wr.alloc (.cells #[.int .i64 x1, .string x2, .string x3] 97 (0, 0))).cell? ⟨wr.heap.size, 0, none⟩ = some (.int .i64 x1) := by rw [cell_of_row _ _ _ _ _ _ HF104.out]; rfl
        have hc107 : (wr.alloc (.cells #[.int .i64 x1, .string x2, .string x3] 97 (0, 0))).cell? ⟨wr.heap.size, 1, none⟩ = some (.string x2) := by rw [cell_of_row _ _ _ _ _ _ HF104.out]; rfl
        have hc108 : (wr.alloc (.cells #[.int .i64 x1, .string x2, .string x3] 97 (0, 0))).cell? ⟨wr.heap.size, 2, none⟩ = some (.string x3) := by rw [cell_of_row _ _ _ _ _ _ HF104.out]; rfl
        go_wp2_with fail
        refine (HIN.out _).mono ?_
        rintro e w' ⟨rfl, rfl⟩
        go_wp2_with fail
        go_ret
        exact ⟨by first | (rw [← HR.out]; done) | (rw [← HR.out]; rfl), HB105.out⟩
      | true =>
        rw [hok] at HIN
        cases hem : x3.toList.isEmpty with
        | true =>
          have HR := Lib.hid (show (2 : Int) = wrR l by rw [← HV.out, ← HS.out, HA.out, if_pos (by unfold okR; rw [show (x1, x2, x3).2.2.toList.isEmpty = true from hem]; simp)])
          clear hok
          have hc101 : wr.cell? ⟨b, off + k * 3, none⟩ = some (.int .i64 x1) := (H.out.below HB.out).cellAt HX.out hlt 0 _ rfl
          have hc102 : wr.cell? ⟨b, off + k * 3 + 1, none⟩ = some (.string x2) := (H.out.below HB.out).cellAt HX.out hlt 1 _ rfl
          have hc103 : wr.cell? ⟨b, off + k * 3 + 2, none⟩ = some (.string x3) := (H.out.below HB.out).cellAt HX.out hlt 2 _ rfl
          have HF104 := Lib.hid (blk_new wr (.cells #[.int .i64 x1, .string x2, .string x3] 97 (0, 0)))
          have HB105 := Lib.hid (HB.out.alloc HB.out.size (.cells #[.int .i64 x1, .string x2, .string x3] 97 (0, 0)))
          clear HB
          have hc106 : (wr.alloc (.cells #[.int .i64 x1, .string x2, .string x3] 97 (0, 0))).cell? ⟨wr.heap.size, 0, none⟩ = some (.int .i64 x1) := by rw [cell_of_row _ _ _ _ _ _ HF104.out]; rfl
          have hc107 : (wr.alloc (.cells #[.int .i64 x1, .string x2, .string x3] 97 (0, 0))).cell? ⟨wr.heap.size, 1, none⟩ = some (.string x2) := by rw [cell_of_row _ _ _ _ _ _ HF104.out]; rfl
          have hc108 : (wr.alloc (.cells #[.int .i64 x1, .string x2, .string x3] 97 (0, 0))).cell? ⟨wr.heap.size, 2, none⟩ = some (.string x3) := by rw [cell_of_row _ _ _ _ _ _ HF104.out]; rfl
          go_wp2_with fail
          refine (HIN.out _).mono ?_
          rintro e w' ⟨rfl, rfl⟩
          go_wp2_with fail
          go_ret
          exact ⟨by first | (rw [← HR.out]; done) | (rw [← HR.out]; rfl), HB105.out⟩
        | false =>
          have HOK := Lib.hid (show ¬ okR (x1, x2, x3) = false by unfold okR okN; rw [show (decide ((x1, x2, x3).1 = 1) || decide ((x1, x2, x3).1 = 2)) = true from HKK.out, show nm (x1, x2, x3).2.1 = true from hok, show (x1, x2, x3).2.2.toList.isEmpty = false from hem]; simp)
          clear hok
          rcases Nat.eq_zero_or_pos k with h0 | hpos
          · subst h0
            have HR := Lib.hid (show wrE (prevR l (0 + 1)) (l.drop (0 + 1)) = wrE none l by rw [← HS.out, HA.out, if_neg HOK.out, if_neg (by simp [prevR, ordR])])
            have hof : off + 0 * 3 = off := by omega
            have hc101 : wr.cell? ⟨b, off + 0 * 3, none⟩ = some (.int .i64 x1) := (H.out.below HB.out).cellAt HX.out hlt 0 _ rfl
            have hc101z : wr.cell? ⟨b, off, none⟩ = some (.int .i64 x1) := by have q := hc101; rw [hof] at q; exact q
            have hc102 : wr.cell? ⟨b, off + 0 * 3 + 1, none⟩ = some (.string x2) := (H.out.below HB.out).cellAt HX.out hlt 1 _ rfl
            have hc102z : wr.cell? ⟨b, off + 1, none⟩ = some (.string x2) := by have q := hc102; rw [hof] at q; exact q
            have hc103 : wr.cell? ⟨b, off + 0 * 3 + 2, none⟩ = some (.string x3) := (H.out.below HB.out).cellAt HX.out hlt 2 _ rfl
            have hc103z : wr.cell? ⟨b, off + 2, none⟩ = some (.string x3) := by have q := hc103; rw [hof] at q; exact q
            have HF104 := Lib.hid (blk_new wr (.cells #[.int .i64 x1, .string x2, .string x3] 97 (0, 0)))
            have HB105 := Lib.hid (HB.out.alloc HB.out.size (.cells #[.int .i64 x1, .string x2, .string x3] 97 (0, 0)))
            clear HB
            have hc106 : (wr.alloc (.cells #[.int .i64 x1, .string x2, .string x3] 97 (0, 0))).cell? ⟨wr.heap.size, 0, none⟩ = some (.int .i64 x1) := by rw [cell_of_row _ _ _ _ _ _ HF104.out]; rfl
            have hc107 : (wr.alloc (.cells #[.int .i64 x1, .string x2, .string x3] 97 (0, 0))).cell? ⟨wr.heap.size, 1, none⟩ = some (.string x2) := by rw [cell_of_row _ _ _ _ _ _ HF104.out]; rfl
            have hc108 : (wr.alloc (.cells #[.int .i64 x1, .string x2, .string x3] 97 (0, 0))).cell? ⟨wr.heap.size, 2, none⟩ = some (.string x3) := by rw [cell_of_row _ _ _ _ _ _ HF104.out]; rfl
            go_wp2_with fail
            refine (HIN.out _).mono ?_
            rintro e w' ⟨rfl, rfl⟩
            go_upto_region 8 with (fail)
            have hr109 := fun d os => cell_regrown hc101 d os
            have hr110 := fun d os => cell_regrown hc102 d os
            have hr111 := fun d os => cell_regrown hc103 d os
            have hr112 := fun d os => cell_regrown hc106 d os
            have hr113 := fun d os => cell_regrown hc107 d os
            have hr114 := fun d os => cell_regrown hc108 d os
            refine wp_region_quiet_below (by kernel_rfl) (by kernel_rfl) ?_
            repeat (any_goals (first | go_big_quiet_step (fail) | quiet_step (fail)))
            refine wpQuiet_nil ?_
            intro w11 hw11
            have hb11 := below_anyY hw11
            clear hw11 hr109 hr110 hr111 hr112 hr113 hr114
            clear hc101 hc102 hc103 hc106 hc107 hc108 hc101z hc102z hc103z
            have HF115 := Lib.hid (blk_below HF104.out hb11)
            have HB116 := Lib.hid (HB105.out.trans (hb11.mono HB105.out.size))
            clear hb11 HB105 HF104
            go_wp2_with fail
            go_roundw
            case rel => exact ⟨1, by go_num, by omega, HR.out, HB116.out⟩
            case measure => simp [intOf] <;> omega
          · obtain ⟨m, hkm⟩ : ∃ m, k = m + 1 := ⟨k - 1, by omega⟩
            have hmn : m < n := by omega
            have hlm : m < l.length := by rw [LL.out]; exact hmn
            obtain ⟨y, hy⟩ : ∃ y, l[m] = y := ⟨_, rfl⟩
            have HY := Lib.hid (show l[m]? = some y by rw [List.getElem?_eq_getElem hlm, hy])
            obtain ⟨y1, y2, y3⟩ := y
            have HPV := Lib.hid (show prevR l k = some (y1, y2, y3) by rw [hkm]; exact HY.out)
            have hm0 : (0 : Int) ≤ (m : Int) := by omega
            have hm1 : (m : Int) < (n : Int) := by omega
            have hwk : IntKind.i64.wrap ((k : Int) - 1) = (m : Int) := by rw [IntWalk.i64_in _ (by omega)]; omega
            have hk0 : decide ((0 : Int) < (k : Int)) = true := decide_eq_true (by omega)
            have HF := Lib.hid (fun W : World => rfless_any y1 y2 y3 x1 x2 x3 W)
            have HKM := Lib.hid hkm
            have hk0n : decide (0 < k) = true := decide_eq_true hpos
            clear hy hkm
            cases hp : lessR (y1, y2, y3) (x1, x2, x3) with
            | true =>
              have HR := Lib.hid (show wrE (prevR l (k + 1)) (l.drop (k + 1)) = wrE none l by rw [← HS.out, HA.out, if_neg HOK.out, if_neg (by rw [HPV.out]; show ¬ lessR _ _ = false; rw [hp]; simp)])
              rw [hp] at HF
              clear hp
              have hc101 : wr.cell? ⟨b, off + k * 3, none⟩ = some (.int .i64 x1) := (H.out.below HB.out).cellAt HX.out hlt 0 _ rfl
              have hc102 : wr.cell? ⟨b, off + k * 3 + 1, none⟩ = some (.string x2) := (H.out.below HB.out).cellAt HX.out hlt 1 _ rfl
              have hc103 : wr.cell? ⟨b, off + k * 3 + 2, none⟩ = some (.string x3) := (H.out.below HB.out).cellAt HX.out hlt 2 _ rfl
              have HF104 := Lib.hid (blk_new wr (.cells #[.int .i64 x1, .string x2, .string x3] 97 (0, 0)))
              have HB105 := Lib.hid (HB.out.alloc HB.out.size (.cells #[.int .i64 x1, .string x2, .string x3] 97 (0, 0)))
              clear HB
              have hc106 : (wr.alloc (.cells #[.int .i64 x1, .string x2, .string x3] 97 (0, 0))).cell? ⟨wr.heap.size, 0, none⟩ = some (.int .i64 x1) := by rw [cell_of_row _ _ _ _ _ _ HF104.out]; rfl
              have hc107 : (wr.alloc (.cells #[.int .i64 x1, .string x2, .string x3] 97 (0, 0))).cell? ⟨wr.heap.size, 1, none⟩ = some (.string x2) := by rw [cell_of_row _ _ _ _ _ _ HF104.out]; rfl
              have hc108 : (wr.alloc (.cells #[.int .i64 x1, .string x2, .string x3] 97 (0, 0))).cell? ⟨wr.heap.size, 2, none⟩ = some (.string x3) := by rw [cell_of_row _ _ _ _ _ _ HF104.out]; rfl
              have hc109 : (wr.alloc (.cells #[.int .i64 x1, .string x2, .string x3] 97 (0, 0))).cell? ⟨b, off + m * 3, none⟩ = some (.int .i64 y1) := (H.out.below HB105.out).cellAt HY.out hmn 0 _ rfl
              have hc110 : (wr.alloc (.cells #[.int .i64 x1, .string x2, .string x3] 97 (0, 0))).cell? ⟨b, off + m * 3 + 1, none⟩ = some (.string y2) := (H.out.below HB105.out).cellAt HY.out hmn 1 _ rfl
              have hc111 : (wr.alloc (.cells #[.int .i64 x1, .string x2, .string x3] 97 (0, 0))).cell? ⟨b, off + m * 3 + 2, none⟩ = some (.string y3) := (H.out.below HB105.out).cellAt HY.out hmn 2 _ rfl
              go_wp2_with fail
              refine (HIN.out _).mono ?_
              rintro e w' ⟨rfl, rfl⟩
              go_upto_region 8 with (fail)
              have hr112 := fun d os => cell_regrown hc101 d os
              have hr113 := fun d os => cell_regrown hc102 d os
              have hr114 := fun d os => cell_regrown hc103 d os
              have hr115 := fun d os => cell_regrown hc106 d os
              have hr116 := fun d os => cell_regrown hc107 d os
              have hr117 := fun d os => cell_regrown hc108 d os
              have hr118 := fun d os => cell_regrown hc109 d os
              have hr119 := fun d os => cell_regrown hc110 d os
              have hr120 := fun d os => cell_regrown hc111 d os
              refine wp_region_quiet_below (by kernel_rfl) (by kernel_rfl) ?_
              repeat (any_goals (first | go_big_quiet_step ((go_at_call 56; with_reducible exact Calls.regrown_of (HF.out _))) | quiet_step ((go_at_call 56; with_reducible exact Calls.regrown_of (HF.out _)))))
              refine wpQuiet_nil ?_
              intro w11 hw11
              have hb11 := below_anyY hw11
              clear hw11 hr112 hr113 hr114 hr115 hr116 hr117 hr118 hr119 hr120
              clear hc101 hc102 hc103 hc106 hc107 hc108 hc109 hc110 hc111
              have HF121 := Lib.hid (blk_below HF104.out hb11)
              have HB122 := Lib.hid (HB105.out.trans (hb11.mono HB105.out.size))
              clear hb11 HB105 HF104
              clear hwk
              go_wp2_with fail
              go_roundw
              case rel => exact ⟨k + 1, by go_num, by omega, HR.out, HB122.out⟩
              case measure => simp [intOf] <;> omega
            | false =>
              have HR := Lib.hid (show (4 : Int) = wrR l by rw [← HV.out, ← HS.out, HA.out, if_neg HOK.out, if_pos (by rw [HPV.out]; exact hp)])
              rw [hp] at HF
              clear hp
              have hc101 : wr.cell? ⟨b, off + k * 3, none⟩ = some (.int .i64 x1) := (H.out.below HB.out).cellAt HX.out hlt 0 _ rfl
              have hc102 : wr.cell? ⟨b, off + k * 3 + 1, none⟩ = some (.string x2) := (H.out.below HB.out).cellAt HX.out hlt 1 _ rfl
              have hc103 : wr.cell? ⟨b, off + k * 3 + 2, none⟩ = some (.string x3) := (H.out.below HB.out).cellAt HX.out hlt 2 _ rfl
              have HF104 := Lib.hid (blk_new wr (.cells #[.int .i64 x1, .string x2, .string x3] 97 (0, 0)))
              have HB105 := Lib.hid (HB.out.alloc HB.out.size (.cells #[.int .i64 x1, .string x2, .string x3] 97 (0, 0)))
              clear HB
              have hc106 : (wr.alloc (.cells #[.int .i64 x1, .string x2, .string x3] 97 (0, 0))).cell? ⟨wr.heap.size, 0, none⟩ = some (.int .i64 x1) := by rw [cell_of_row _ _ _ _ _ _ HF104.out]; rfl
              have hc107 : (wr.alloc (.cells #[.int .i64 x1, .string x2, .string x3] 97 (0, 0))).cell? ⟨wr.heap.size, 1, none⟩ = some (.string x2) := by rw [cell_of_row _ _ _ _ _ _ HF104.out]; rfl
              have hc108 : (wr.alloc (.cells #[.int .i64 x1, .string x2, .string x3] 97 (0, 0))).cell? ⟨wr.heap.size, 2, none⟩ = some (.string x3) := by rw [cell_of_row _ _ _ _ _ _ HF104.out]; rfl
              have hc109 : (wr.alloc (.cells #[.int .i64 x1, .string x2, .string x3] 97 (0, 0))).cell? ⟨b, off + m * 3, none⟩ = some (.int .i64 y1) := (H.out.below HB105.out).cellAt HY.out hmn 0 _ rfl
              have hc110 : (wr.alloc (.cells #[.int .i64 x1, .string x2, .string x3] 97 (0, 0))).cell? ⟨b, off + m * 3 + 1, none⟩ = some (.string y2) := (H.out.below HB105.out).cellAt HY.out hmn 1 _ rfl
              have hc111 : (wr.alloc (.cells #[.int .i64 x1, .string x2, .string x3] 97 (0, 0))).cell? ⟨b, off + m * 3 + 2, none⟩ = some (.string y3) := (H.out.below HB105.out).cellAt HY.out hmn 2 _ rfl
              go_wp2_with fail
              refine (HIN.out _).mono ?_
              rintro e w' ⟨rfl, rfl⟩
              go_upto_region 8 with (fail)
              have hr112 := fun d os => cell_regrown hc101 d os
              have hr113 := fun d os => cell_regrown hc102 d os
              have hr114 := fun d os => cell_regrown hc103 d os
              have hr115 := fun d os => cell_regrown hc106 d os
              have hr116 := fun d os => cell_regrown hc107 d os
              have hr117 := fun d os => cell_regrown hc108 d os
              have hr118 := fun d os => cell_regrown hc109 d os
              have hr119 := fun d os => cell_regrown hc110 d os
              have hr120 := fun d os => cell_regrown hc111 d os
              refine wp_region_quiet_below (by kernel_rfl) (by kernel_rfl) ?_
              repeat (any_goals (first | go_big_quiet_step ((go_at_call 56; with_reducible exact Calls.regrown_of (HF.out _))) | quiet_step ((go_at_call 56; with_reducible exact Calls.regrown_of (HF.out _)))))
              refine wpQuiet_nil ?_
              intro w11 hw11
              have hb11 := below_anyY hw11
              clear hw11 hr112 hr113 hr114 hr115 hr116 hr117 hr118 hr119 hr120
              clear hc101 hc102 hc103 hc106 hc107 hc108 hc109 hc110 hc111
              have HF121 := Lib.hid (blk_below HF104.out hb11)
              have HB122 := Lib.hid (HB105.out.trans (hb11.mono HB105.out.size))
              clear hb11 HB105 HF104
              clear hwk
              go_wp2_with fail
              go_ret
              exact ⟨by first | (rw [← HR.out]; done) | (rw [← HR.out]; rfl), HB122.out⟩
    · have hd1 : decide ((k : Int) < (n : Int)) = false := decide_eq_false (by omega)
      have HR := Lib.hid (show (0 : Int) = wrR l by rw [← HV.out, ← HS.out, wrE_end l k (by rw [LL.out]; omega)])
      go_wp2_with fail
      go_ret
      exact ⟨by first | (rw [← HR.out]; done) | (rw [← HR.out]; rfl), HB.out⟩
end Go.Proofs.Ytbjngbacnkmjhaa
