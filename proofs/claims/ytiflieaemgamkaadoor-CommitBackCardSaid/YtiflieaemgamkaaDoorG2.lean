/- Several texts of one family, merged for a claim. Conditions as in its parts. -/
import Derived.Test.YtiflieaemgamkaaDoorStB
import Derived.Test.YtiflieaemgamkaaDoorPm
import Derived.Test.YtiflieaemgamkaaDoorG0
import Derived.Test.YtiflieaemgamkaaDoorT
import Derived.Test.YtiflieaemgamkaaDoorSput
import Derived.Test.YtiflieaemgamkaaDoorSu
import Derived.Test.YtiflieaemgamkaaDoorP
import Derived.Test.YtiflieaemgamkaaDoorSr
import Derived.Test.YtiflieaemgamkaaDoorPo
import Derived.Test.YtiflieaemgamkaaDoorOLb
namespace Go.Proofs.YtiflieaemgamkaaDoor
open Go.RowKit Vi

theorem cm_retB {a b : Bool} (h : a = b) : Ending.returned (.bool a) = .returned (.bool b) := by rw [h]
/-- an index, or one below 0: is there one? -/
def IdxP (b : Bool) (w : World) (e : Ending) (w' : World) : Prop := ∃ r : Int, e = .returned (.int .i64 r) ∧ decide (0 ≤ r) = b ∧ Below w.heap.size w w'
def RetBl (b : Bool) (w : World) (e : Ending) (w' : World) : Prop := e = .returned (.bool b) ∧ Below w.heap.size w w'
/-- a text that is no sum -/
def badH (s : ByteArray) : Bool := !decide (s.size = 32)
theorem any_snocF {α : Type} (p : α → Bool) (l : List α) (k : Nat) (hk : k < l.length) : (l.take (k + 1)).any p = ((l.take k).any p || p l[k]) := by
  rw [List.take_succ_eq_append_getElem hk, List.any_append]
  simp
theorem any_at {α : Type} (p : α → Bool) (l : List α) (k : Nat) (hk : k < l.length) (h : p l[k] = true) : l.any p = true := List.any_eq_true.2 ⟨_, List.getElem_mem hk, h⟩
set_option maxRecDepth 100000 in
theorem nosum_any (s : ByteArray) (w : World) : Calls Tryd.prog 75 #[.string s] w fun e w' => e = .returned (.bool (badH s)) ∧ w = w' := by
  by_cases h : s.size = 32
  · have HR := Lib.hid (show badH s = false by unfold badH; simp [h])
    have d1 : ((s.size : Int) != 32) = false := by rw [h]; rfl
    have d2 : decide (s.size = 32) = true := decide_eq_true h
    have d3 : (s.size == 32) = true := by simp [h]
    go_enter Tryd.func75, Tryd.ntmps75
    go_wp2_with fail
    go_ret
    exact ⟨cm_retB HR.out.symm, rfl⟩
  · have HR := Lib.hid (show badH s = true by unfold badH; simp [h])
    have d1 : ((s.size : Int) != 32) = true := by simp; omega
    have d2 : decide (s.size = 32) = false := decide_eq_false h
    have d3 : (s.size == 32) = false := by simpa using h
    clear h
    go_enter Tryd.func75, Tryd.ntmps75
    go_wp2_with fail
    go_ret
    exact ⟨cm_retB HR.out.symm, rfl⟩
set_option maxRecDepth 100000 in
set_option maxHeartbeats 1000000 in
theorem ixsum_any (A : Option Addr) (n c : Nat) (l : List ByteArray) (w : World) (h : RdX stC 1 w A n l) (hn : n ≤ 100000) :
    Calls Tryd.prog 65 #[.slice A n c, .func (.func 75) #[] #[]] w (IdxP (l.any badH) w) := by
  have H := Lib.hid h
  clear h
  go_enter Tryd.func65, Tryd.ntmps65
  go_wp2_with fail
  go_loopw [5, 8] (fun _ i wr => ∃ k : Nat, i = .int .i64 (k : Int) ∧ k ≤ n ∧ Hid ((l.take k).any badH = false) ∧ Below w.heap.size w wr) (fun _ i _ => n - (intOf i).toNat)
  case atStart => exact ⟨0, rfl, Nat.zero_le _, Lib.hid rfl, Below.refl _ _⟩
  case round =>
    obtain ⟨k, rfl, hk, HN, hb⟩ := hrel
    have HB := Lib.hid hb
    clear hb
    by_cases hlt : k < n
    · have hd1 : decide ((k : Int) < (n : Int)) = true := decide_eq_true (by omega)
      have hi0 : (0 : Int) ≤ (k : Int) := by omega
      obtain ⟨b, off, hl2, rfl, hbb, hcell⟩ := (H.out.below HB.out).at hlt
      have HT := Lib.hid (any_snocF badH l k hl2)
      have HA := Lib.hid (any_at badH l k hl2)
      obtain ⟨x, hx⟩ : ∃ x, x = l[k] := ⟨_, rfl⟩
      rw [← hx] at HT HA
      have c0 := hcell 0 (.string l[k]) rfl
      rw [← hx, Nat.mul_one, Nat.add_zero] at c0
      clear hcell hx
      obtain ⟨z, hz⟩ : ∃ z, z = badH x := ⟨_, rfl⟩
      rw [← hz] at HT HA
      have HC := of_same (nosum_any x wr)
      rw [← hz] at HC
      have HC := Lib.hid HC
      clear hz
      go_wp2_with fail
      refine HC.out.mono ?_
      rintro e w1 ⟨rfl, hb1⟩
      have HB1 := Lib.hid (HB.out.trans (hb1.mono HB.out.size))
      clear hb1
      cases z with
      | true =>
        go_wp2_with fail
        go_ret
        exact ⟨(k : Int), rfl, by rw [HA.out (by first | rfl | trivial)]; exact decide_eq_true (by omega), HB1.out⟩
      | false =>
        go_wp2_with fail
        go_roundw
        case rel => exact ⟨k + 1, by go_num, by omega, Lib.hid (by rw [HT.out, HN.out]; rfl), HB1.out⟩
        case measure => simp [intOf] <;> omega
    · have hd1 : decide ((k : Int) < (n : Int)) = false := decide_eq_false (by omega)
      have HE := Lib.hid (show l.take k = l from List.take_of_length_le (by have := H.out.1; omega))
      go_wp2_with fail
      go_ret
      exact ⟨-1, rfl, by rw [← HE.out, HN.out]; rfl, HB.out⟩
set_option maxRecDepth 100000 in
theorem nosums_any (A : Option Addr) (n c : Nat) (l : List ByteArray) (w : World) (h : RdX stC 1 w A n l) (hn : n ≤ 100000) :
    Calls Tryd.prog 46 #[.slice A n c, .func (.func 75) #[] #[]] w (RetBl (l.any badH) w) := by
  have HC := Lib.hid (ixsum_any A n c l w h hn)
  clear h
  go_enter Tryd.func46, Tryd.ntmps46
  go_wp2_with fail
  refine HC.out.mono ?_
  rintro e w1 ⟨r, rfl, hr, hb1⟩
  have HB1 := Lib.hid hb1
  have HR := Lib.hid hr
  clear hb1 hr
  go_wp2_with fail
  go_ret
  exact ⟨cm_retB HR.out, HB1.out⟩
end Go.Proofs.YtiflieaemgamkaaDoor

namespace Go.Proofs.YtiflieaemgamkaaDoor
open Go.RowKit Vi

theorem ba_beqC {a b : ByteArray} (h : (a == b) = true) : a = b := by
  have q : (a.data == b.data) = true := h
  exact ByteArray.ext (by simpa using q)
/-- may a commit be? -/
def cmok (k : Int) (P : List ByteArray) (g t : ByteArray) : Bool := decide (1 ≤ k) && decide (k ≤ 4294967295) && decide (P.length ≤ 2) && !P.any badH && !(decide (P.length = 2) && decide (P[0]? = P[1]?)) && !badH g && decide (t.size ≤ 40)
def chkC (k : Int) (P : List ByteArray) (g t : ByteArray) : Int := if cmok k P g t = true then 0 else 2
theorem chk_no {k : Int} {P : List ByteArray} {g t : ByteArray} (h : cmok k P g t = false) : Ending.returned (.int .i64 2) = .returned (.int .i64 (chkC k P g t)) := by unfold chkC; rw [if_neg (by rw [h]; simp)]
theorem chk_yes {k : Int} {P : List ByteArray} {g t : ByteArray} (h : cmok k P g t = true) : Ending.returned (.int .i64 0) = .returned (.int .i64 (chkC k P g t)) := by unfold chkC; rw [if_pos h]
set_option linter.unusedSimpArgs false in
set_option maxRecDepth 100000 in
set_option maxHeartbeats 4000000 in
theorem ccheck_any (k : Int) (A : Option Addr) (n c : Nat) (P : List ByteArray) (g t : ByteArray) (w : World) (h : RdX stC 1 w A n P) (hn : n ≤ 100000) :
    Calls Tryd.prog 58 #[.agg #[.int .i64 k, .slice A n c, .string g, .string t]] w fun e w' => e = .returned (.int .i64 (chkC k P g t)) ∧ Below w.heap.size w w' := by
  have H := Lib.hid h
  have LL := Lib.hid h.1
  clear h
  have HB1 := Lib.hid (Below.refl w.heap.size w)
  have HF2 := Lib.hid (blk_new w (.cells #[.int .i64 k, .slice A n c, .string g, .string t] 41 (0, 0)))
  have HB3 := Lib.hid (HB1.out.alloc HB1.out.size (.cells #[.int .i64 k, .slice A n c, .string g, .string t] 41 (0, 0)))
  clear HB1
  obtain ⟨v, hv⟩ : ∃ v, v = (w.alloc (.cells #[.int .i64 k, .slice A n c, .string g, .string t] 41 (0, 0))) := ⟨_, rfl⟩
  have HVv := Lib.hid hv
  rw [← hv] at HF2 HB3
  clear hv
  go_enter Tryd.func58, Tryd.ntmps58
  go_upto_region 1 with (fail)
  rw [← HVv.out]
  have hc4 : v.cell? ⟨w.heap.size, 0, none⟩ = some (.int .i64 k) := by rw [cell_of_row _ _ _ _ _ _ HF2.out]; rfl
  have hc5 : v.cell? ⟨w.heap.size, 1, none⟩ = some (.slice A n c) := by rw [cell_of_row _ _ _ _ _ _ HF2.out]; rfl
  by_cases k1 : k < 1
  · skip
    have d1 : decide (k < 1) = true := decide_eq_true k1
    have e1 : decide (1 ≤ k) = false := decide_eq_false (by omega)
    go_wp2_with fail
    go_ret
    exact ⟨chk_no (by unfold cmok; simp [e1]), HB3.out⟩
  have d1 : decide (k < 1) = false := decide_eq_false k1
  by_cases k2 : 4294967295 < k
  · skip
    have d2 : decide ((4294967295 : Int) < k) = true := decide_eq_true k2
    have e1 : decide (k ≤ 4294967295) = false := decide_eq_false (by omega)
    go_wp2_with fail
    go_ret
    exact ⟨chk_no (by unfold cmok; simp [e1]), HB3.out⟩
  have d2 : decide ((4294967295 : Int) < k) = false := decide_eq_false k2
  by_cases k3 : 2 < n
  · skip
    have d3 : decide ((2 : Int) < (n : Int)) = true := decide_eq_true (by omega)
    have d4 : decide (2 < n) = true := decide_eq_true k3
    have e1 : decide (P.length ≤ 2) = false := decide_eq_false (by have := LL.out; omega)
    go_wp2_with fail
    go_ret
    exact ⟨chk_no (by unfold cmok; simp [e1]), HB3.out⟩
  have d3 : decide ((2 : Int) < (n : Int)) = false := decide_eq_false (by omega)
  have d4 : decide (2 < n) = false := decide_eq_false k3
  go_wp2_with fail
  refine (nosums_any A n c P v (H.out.below HB3.out) hn).mono ?_
  rintro e w11 ⟨rfl, hb11⟩
  clear hc4 hc5
  have HF6 := Lib.hid (blk_below HF2.out hb11)
  have HB7 := Lib.hid (HB3.out.trans (hb11.mono HB3.out.size))
  clear hb11 HB3 HF2
  clear d1 d2 d3 d4
  cases hP : P.any badH with
  | true =>
    go_wp2_with fail
    go_ret
    exact ⟨chk_no (by unfold cmok; simp [hP]), HB7.out⟩
  | false =>
    have hc8 : w11.cell? ⟨w.heap.size, 1, none⟩ = some (.slice A n c) := by rw [cell_of_row _ _ _ _ _ _ HF6.out]; rfl
    have HP := Lib.hid hP
    clear hP
    have HFIN := Lib.hid (show P.length = 2 → P[0]? = P[1]? → cmok k P g t = false from fun a b => by
      have e : (decide (P.length = 2) && decide (P[0]? = P[1]?)) = true := by rw [decide_eq_true a, decide_eq_true b]; rfl
      unfold cmok
      rw [e]
      simp only [Bool.not_true, Bool.and_false, Bool.false_and])
    by_cases hn2 : n = 2
    rotate_left
    · skip
      have d3 : decide ((n : Int) = 2) = false := decide_eq_false (by omega)
      have d4 : ((n : Int) == 2) = false := by simp; omega
      have d7 : (n == 2) = false := by simpa using hn2
      have d8 : decide (n = 2) = false := decide_eq_false hn2
      have HDI := Lib.hid (show (decide (P.length = 2) && decide (P[0]? = P[1]?)) = false by rw [LL.out, d8]; rfl)
      go_upto_region 5 with (fail)
      have hr9 := fun d os => cell_regrown hc8 d os
      refine wp_region_quiet_below (by kernel_rfl) (by kernel_rfl) ?_
      repeat (any_goals (first | go_big_quiet_step (fail) | quiet_step (fail)))
      refine wpQuiet_nil ?_
      intro w12 hw12
      have hb12 := below_anyY hw12
      clear hw12 hr9
      clear hc8
      have HF10 := Lib.hid (blk_below HF6.out hb12)
      have HB11 := Lib.hid (HB7.out.trans (hb12.mono HB7.out.size))
      clear hb12 HB7 HF6
      clear d3 d4 d7 d8
      have hc12 : w12.cell? ⟨w.heap.size, 2, none⟩ = some (.string g) := by rw [cell_of_row _ _ _ _ _ _ HF10.out]; rfl
      have hc13 : w12.cell? ⟨w.heap.size, 3, none⟩ = some (.string t) := by rw [cell_of_row _ _ _ _ _ _ HF10.out]; rfl
      go_wp2_with fail
      refine (of_same (nosum_any g w12)).mono ?_
      rintro e w13 ⟨rfl, hb13⟩
      clear hc12 hc13
      have HF14 := Lib.hid (blk_below HF10.out hb13)
      have HB15 := Lib.hid (HB11.out.trans (hb13.mono HB11.out.size))
      clear hb13 HB11 HF10
      cases hg : badH g with
      | true =>
        go_wp2_with fail
        go_ret
        exact ⟨chk_no (by unfold cmok; simp [hg]), HB15.out⟩
      | false =>
        have hc16 : w13.cell? ⟨w.heap.size, 3, none⟩ = some (.string t) := by rw [cell_of_row _ _ _ _ _ _ HF14.out]; rfl
        by_cases k4 : 40 < t.size
        · skip
          have d5 : decide ((40 : Int) < (t.size : Int)) = true := decide_eq_true (by omega)
          have d6 : decide (40 < t.size) = true := decide_eq_true k4
          have e1 : decide (t.size ≤ 40) = false := decide_eq_false (by omega)
          go_wp2_with fail
          go_ret
          exact ⟨chk_no (by unfold cmok; simp [e1]), HB15.out⟩
        have d5 : decide ((40 : Int) < (t.size : Int)) = false := decide_eq_false (by omega)
        have d6 : decide (40 < t.size) = false := decide_eq_false k4
        have HY := Lib.hid (show cmok k P g t = true by
          have e1 : decide (1 ≤ k) = true := decide_eq_true (by omega)
          have e2 : decide (k ≤ 4294967295) = true := decide_eq_true (by omega)
          have e3 : decide (P.length ≤ 2) = true := decide_eq_true (by have := LL.out; omega)
          have e4 : decide (t.size ≤ 40) = true := decide_eq_true (by omega)
          have e5 := HDI.out
          unfold cmok
          rw [e1, e2, e3, e4, HP.out, hg, e5]
          rfl)
        go_wp2_with fail
        go_ret
        exact ⟨chk_yes HY.out, HB15.out⟩
    subst hn2
    obtain ⟨p, q, rfl⟩ : ∃ p q, P = [p, q] := by
      have q0 := LL.out
      match P, q0 with
      | [p, q], _ => exact ⟨p, q, rfl⟩
    obtain ⟨b, o, rfl, _, hc⟩ := (H.out.below HB7.out).2 (by omega)
    have hc1 : w11.cell? ⟨b, o, none⟩ = some (.string p) := by have z := hc 0 p 0 (.string p) rfl rfl; simpa using z
    have hc2 : w11.cell? ⟨b, o + 1, none⟩ = some (.string q) := by have z := hc 1 q 0 (.string q) rfl rfl; simpa using z
    clear hc
    by_cases hpq : p = q
    · skip
      subst hpq
      have s1 : (p == p) = true := by show (p.data == p.data) = true; simp
      have s2 : (p.toList == p.toList) = true := by simp
      go_upto_region 5 with (fail)
      have hr9 := fun d os => cell_regrown hc8 d os
      have hr10 := fun d os => cell_regrown hc1 d os
      have hr11 := fun d os => cell_regrown hc2 d os
      refine wp_region_quiet_below (by kernel_rfl) (by kernel_rfl) ?_
      repeat (any_goals (first | go_big_quiet_step (fail) | quiet_step (fail)))
      refine wpQuiet_nil ?_
      intro w12 hw12
      have hb12 := below_anyY hw12
      clear hw12 hr9 hr10 hr11
      clear hc8 hc1 hc2
      have HF12 := Lib.hid (blk_below HF6.out hb12)
      have HB13 := Lib.hid (HB7.out.trans (hb12.mono HB7.out.size))
      clear hb12 HB7 HF6
      clear s1 s2
      go_wp2_with fail
      go_ret
      exact ⟨chk_no (HFIN.out rfl rfl), HB13.out⟩
    · skip
      have s1 : (p == q) = false := by
        cases z : (p == q) with
        | false => rfl
        | true => exact absurd (ba_beqC z) hpq
      have s2 : (p.toList == q.toList) = false := by
        cases z : (p.toList == q.toList) with
        | false => rfl
        | true => exact absurd (ba_ext (by simpa using z)) hpq
      have HDI := Lib.hid (show (decide (([p, q] : List ByteArray).length = 2) && decide (([p, q] : List ByteArray)[0]? = ([p, q] : List ByteArray)[1]?)) = false by simp [hpq])
      clear hpq
      go_upto_region 5 with (fail)
      have hr9 := fun d os => cell_regrown hc8 d os
      have hr10 := fun d os => cell_regrown hc1 d os
      have hr11 := fun d os => cell_regrown hc2 d os
      refine wp_region_quiet_below (by kernel_rfl) (by kernel_rfl) ?_
      repeat (any_goals (first | go_big_quiet_step (fail) | quiet_step (fail)))
      refine wpQuiet_nil ?_
      intro w12 hw12
      have hb12 := below_anyY hw12
      clear hw12 hr9 hr10 hr11
      clear hc8 hc1 hc2
      have HF12 := Lib.hid (blk_below HF6.out hb12)
      have HB13 := Lib.hid (HB7.out.trans (hb12.mono HB7.out.size))
      clear hb12 HB7 HF6
      clear s1 s2
      have hc14 : w12.cell? ⟨w.heap.size, 2, none⟩ = some (.string g) := by rw [cell_of_row _ _ _ _ _ _ HF12.out]; rfl
      have hc15 : w12.cell? ⟨w.heap.size, 3, none⟩ = some (.string t) := by rw [cell_of_row _ _ _ _ _ _ HF12.out]; rfl
      go_wp2_with fail
      refine (of_same (nosum_any g w12)).mono ?_
      rintro e w13 ⟨rfl, hb13⟩
      clear hc14 hc15
      have HF16 := Lib.hid (blk_below HF12.out hb13)
      have HB17 := Lib.hid (HB13.out.trans (hb13.mono HB13.out.size))
      clear hb13 HB13 HF12
      cases hg : badH g with
      | true =>
        go_wp2_with fail
        go_ret
        exact ⟨chk_no (by unfold cmok; simp [hg]), HB17.out⟩
      | false =>
        have hc18 : w13.cell? ⟨w.heap.size, 3, none⟩ = some (.string t) := by rw [cell_of_row _ _ _ _ _ _ HF16.out]; rfl
        by_cases k4 : 40 < t.size
        · skip
          have d5 : decide ((40 : Int) < (t.size : Int)) = true := decide_eq_true (by omega)
          have d6 : decide (40 < t.size) = true := decide_eq_true k4
          have e1 : decide (t.size ≤ 40) = false := decide_eq_false (by omega)
          go_wp2_with fail
          go_ret
          exact ⟨chk_no (by unfold cmok; simp [e1]), HB17.out⟩
        have d5 : decide ((40 : Int) < (t.size : Int)) = false := decide_eq_false (by omega)
        have d6 : decide (40 < t.size) = false := decide_eq_false k4
        have HY := Lib.hid (show cmok k ([p, q] : List ByteArray) g t = true by
          have e1 : decide (1 ≤ k) = true := decide_eq_true (by omega)
          have e2 : decide (k ≤ 4294967295) = true := decide_eq_true (by omega)
          have e3 : decide (([p, q] : List ByteArray).length ≤ 2) = true := decide_eq_true (by have := LL.out; omega)
          have e4 : decide (t.size ≤ 40) = true := decide_eq_true (by omega)
          have e5 := HDI.out
          unfold cmok
          rw [e1, e2, e3, e4, HP.out, hg, e5]
          rfl)
        go_wp2_with fail
        go_ret
        exact ⟨chk_yes HY.out, HB17.out⟩
end Go.Proofs.YtiflieaemgamkaaDoor

namespace Go.Proofs.YtiflieaemgamkaaDoor
open Go.RowKit Vi

set_option linter.unusedSimpArgs false in
set_option maxRecDepth 100000 in
set_option maxHeartbeats 4000000 in
theorem ris_any (k : Int) (A : Option Addr) (n c : Nat) (P : List ByteArray) (g t : ByteArray) (w : World) (h : RdX stC 1 w A n P) (hn : n ≤ 100000) :
    Calls Tryd.prog 68 #[.agg #[.int .i64 k, .slice A n c, .string g, .string t]] w fun e w' => e = .returned (.bool (cmok k P g t)) ∧ Below w.heap.size w w' := by
  have H := Lib.hid h
  have LL := Lib.hid h.1
  clear h
  have HB1 := Lib.hid (Below.refl w.heap.size w)
  have HF2 := Lib.hid (blk_new w (.cells #[.int .i64 k, .slice A n c, .string g, .string t] 41 (0, 0)))
  have HB3 := Lib.hid (HB1.out.alloc HB1.out.size (.cells #[.int .i64 k, .slice A n c, .string g, .string t] 41 (0, 0)))
  clear HB1
  obtain ⟨v, hv⟩ : ∃ v, v = (w.alloc (.cells #[.int .i64 k, .slice A n c, .string g, .string t] 41 (0, 0))) := ⟨_, rfl⟩
  have HVv := Lib.hid hv
  rw [← hv] at HF2 HB3
  clear hv
  go_enter Tryd.func68, Tryd.ntmps68
  go_upto_region 1 with (fail)
  rw [← HVv.out]
  have hc4 : v.cell? ⟨w.heap.size, 0, none⟩ = some (.int .i64 k) := by rw [cell_of_row _ _ _ _ _ _ HF2.out]; rfl
  have hc5 : v.cell? ⟨w.heap.size, 1, none⟩ = some (.slice A n c) := by rw [cell_of_row _ _ _ _ _ _ HF2.out]; rfl
  have hc6 : v.cell? ⟨w.heap.size, 2, none⟩ = some (.string g) := by rw [cell_of_row _ _ _ _ _ _ HF2.out]; rfl
  have hc7 : v.cell? ⟨w.heap.size, 3, none⟩ = some (.string t) := by rw [cell_of_row _ _ _ _ _ _ HF2.out]; rfl
  by_cases k1 : k < 1
  · skip
    have d1 : decide (k < 1) = true := decide_eq_true k1
    have e1 : decide (1 ≤ k) = false := decide_eq_false (by omega)
    go_wp2_with fail
    go_ret
    exact ⟨cm_retB (show false = cmok k P g t from (by unfold cmok; simp [e1] : cmok k P g t = false).symm), HB3.out⟩
  have d1 : decide (k < 1) = false := decide_eq_false k1
  by_cases k2 : 4294967295 < k
  · skip
    have d2 : decide ((4294967295 : Int) < k) = true := decide_eq_true k2
    have e1 : decide (k ≤ 4294967295) = false := decide_eq_false (by omega)
    go_wp2_with fail
    go_ret
    exact ⟨cm_retB (show false = cmok k P g t from (by unfold cmok; simp [e1] : cmok k P g t = false).symm), HB3.out⟩
  have d2 : decide ((4294967295 : Int) < k) = false := decide_eq_false k2
  by_cases k3 : 2 < n
  · skip
    have d3 : decide ((2 : Int) < (n : Int)) = true := decide_eq_true (by omega)
    have d4 : decide (2 < n) = true := decide_eq_true k3
    have e1 : decide (P.length ≤ 2) = false := decide_eq_false (by have := LL.out; omega)
    go_wp2_with fail
    go_ret
    exact ⟨cm_retB (show false = cmok k P g t from (by unfold cmok; simp [e1] : cmok k P g t = false).symm), HB3.out⟩
  have d3 : decide ((2 : Int) < (n : Int)) = false := decide_eq_false (by omega)
  have d4 : decide (2 < n) = false := decide_eq_false k3
  by_cases k4 : ¬ g.size = 32
  · skip
    have d5 : ((g.size : Int) != 32) = true := by simp; omega
    have d6 : (g.size == 32) = false := by simpa using k4
    have d7 : decide (g.size = 32) = false := decide_eq_false k4
    have e1 : badH g = true := by unfold badH; rw [d7]; rfl
    go_wp2_with fail
    go_ret
    exact ⟨cm_retB (show false = cmok k P g t from (by unfold cmok; simp [e1] : cmok k P g t = false).symm), HB3.out⟩
  have k4 : g.size = 32 := Classical.not_not.1 k4
  have d5 : ((g.size : Int) != 32) = false := by rw [k4]; rfl
  have d6 : (g.size == 32) = true := by rw [k4]; rfl
  have d7 : decide (g.size = 32) = true := decide_eq_true k4
  by_cases k5 : 40 < t.size
  · skip
    have d8 : decide ((40 : Int) < (t.size : Int)) = true := decide_eq_true (by omega)
    have d9 : decide (40 < t.size) = true := decide_eq_true k5
    have e1 : decide (t.size ≤ 40) = false := decide_eq_false (by omega)
    go_wp2_with fail
    go_ret
    exact ⟨cm_retB (show false = cmok k P g t from (by unfold cmok; simp [e1] : cmok k P g t = false).symm), HB3.out⟩
  have d8 : decide ((40 : Int) < (t.size : Int)) = false := decide_eq_false (by omega)
  have d9 : decide (40 < t.size) = false := decide_eq_false k5
  have HG := Lib.hid (show badH g = false by unfold badH; rw [d7]; rfl)
  have HK := Lib.hid (And.intro (And.intro k1 k2) (And.intro k3 k5))
  go_wp2_with fail
  clear d1 d2 d3 d4 d5 d6 d7 d8 d9 k4
  go_loop [33] (fun i => ∃ j : Nat, i = .int .i64 (j : Int) ∧ j ≤ n ∧ Hid ((P.take j).any badH = false)) (fun i => n - (intOf i).toNat)
  case atStart => exact ⟨0, rfl, Nat.zero_le _, Lib.hid rfl⟩
  case round =>
    obtain ⟨j, rfl, hj, HN⟩ := hrel
    by_cases hlt : j < n
    · skip
      have hd1 : decide ((j : Int) < (n : Int)) = true := decide_eq_true (by omega)
      have hi0 : (0 : Int) ≤ (j : Int) := by omega
      have hw1 : IntKind.i64.wrap ((j : Int) + 1) = (j : Int) + 1 := IntWalk.i64_in _ (by omega)
      obtain ⟨b, off, hl2, rfl, _, hcell⟩ := (H.out.below HB3.out).at hlt
      have HT := Lib.hid (any_snocF badH P j hl2)
      have HA := Lib.hid (any_at badH P j hl2)
      obtain ⟨x, hx⟩ : ∃ x, x = P[j] := ⟨_, rfl⟩
      rw [← hx] at HT HA
      have c0 := hcell 0 (.string P[j]) rfl
      rw [← hx, Nat.mul_one, Nat.add_zero] at c0
      clear hcell hx
      by_cases kx : x.size = 32
      · skip
        have d5 : ((x.size : Int) != 32) = false := by rw [kx]; rfl
        have d6 : (x.size == 32) = true := by rw [kx]; rfl
        have HX := Lib.hid (show badH x = false by unfold badH; rw [decide_eq_true kx]; rfl)
        clear kx
        go_wp2_with fail
        go_round
        case rel => exact ⟨j + 1, by go_num, by omega, Lib.hid (by rw [HT.out, HN.out, HX.out]; rfl)⟩
        case measure => simp [intOf] <;> omega
      · skip
        have d5 : ((x.size : Int) != 32) = true := by simp; omega
        have d6 : (x.size == 32) = false := by simpa using kx
        have e1 := HA.out (by unfold badH; rw [decide_eq_false kx]; rfl)
        have HE := Lib.hid e1
        clear kx e1
        go_wp2_with fail
        go_ret
        exact ⟨cm_retB (show false = cmok k P g t from (by unfold cmok; rw [HE.out]; simp : cmok k P g t = false).symm), HB3.out⟩
    · skip
      have hd1 : decide ((j : Int) < (n : Int)) = false := decide_eq_false (by omega)
      have HP := Lib.hid (show P.any badH = false by have q := HN.out; rw [List.take_of_length_le (by have := LL.out; omega)] at q; exact q)
      have HALL := Lib.hid (show cmok k P g t = !(decide (P.length = 2) && decide (P[0]? = P[1]?)) by
        unfold cmok
        rw [decide_eq_true (show 1 ≤ k by have := HK.out; omega), decide_eq_true (show k ≤ 4294967295 by have := HK.out; omega), decide_eq_true (show P.length ≤ 2 by have := HK.out; have := LL.out; omega), decide_eq_true (show t.size ≤ 40 by have := HK.out; omega), HP.out, HG.out]
        simp)
      by_cases hn2 : n = 2
      rotate_left
      · skip
        have d1 : decide ((n : Int) < 2) = true := decide_eq_true (by have := HK.out; omega)
        have d2 : decide (n < 2) = true := decide_eq_true (by have := HK.out; omega)
        have HR := Lib.hid (show cmok k P g t = true by rw [HALL.out, decide_eq_false (show ¬ P.length = 2 by have := LL.out; omega)]; rfl)
        go_upto_region 9 with (fail)
        have hc8 : v.cell? ⟨w.heap.size, 1, none⟩ = some (.slice A n c) := by rw [cell_of_row _ _ _ _ _ _ HF2.out]; rfl
        have hr9 := fun d os => cell_regrown hc4 d os
        have hr10 := fun d os => cell_regrown hc5 d os
        have hr11 := fun d os => cell_regrown hc6 d os
        have hr12 := fun d os => cell_regrown hc7 d os
        have hr13 := fun d os => cell_regrown hc8 d os
        refine wp_region_quiet_below (by kernel_rfl) (by kernel_rfl) ?_
        repeat (any_goals (first | go_big_quiet_step (fail) | quiet_step (fail)))
        refine wpQuiet_nil ?_
        intro w1 hw1
        have hb1 := below_anyY hw1
        clear hw1 hr9 hr10 hr11 hr12 hr13
        clear hc4 hc5 hc6 hc7 hc8
        have HF14 := Lib.hid (blk_below HF2.out hb1)
        have HB15 := Lib.hid (HB3.out.trans (hb1.mono HB3.out.size))
        clear hb1 HB3 HF2
        go_wp2_with fail
        go_ret
        exact ⟨cm_retB HR.out.symm, HB15.out⟩
      subst hn2
      obtain ⟨p, q, rfl⟩ : ∃ p q, P = [p, q] := by
        have q0 := LL.out
        match P, q0 with
        | [p, q], _ => exact ⟨p, q, rfl⟩
      obtain ⟨b, o, rfl, _, hc⟩ := (H.out.below HB3.out).2 (by omega)
      have hc1 : v.cell? ⟨b, o, none⟩ = some (.string p) := by have z := hc 0 p 0 (.string p) rfl rfl; simpa using z
      have hc2 : v.cell? ⟨b, o + 1, none⟩ = some (.string q) := by have z := hc 1 q 0 (.string q) rfl rfl; simpa using z
      clear hc
      by_cases hpq : p = q
      · skip
        subst hpq
        have s1 : (p == p) = true := by show (p.data == p.data) = true; simp
        have s2 : (p.toList == p.toList) = true := by simp
        have HR := Lib.hid (show cmok k [p, p] g t = false by rw [HALL.out]; simp)
        go_upto_region 9 with (fail)
        have hc8 : v.cell? ⟨w.heap.size, 1, none⟩ = some (.slice (some ⟨b, o, none⟩) 2 c) := by rw [cell_of_row _ _ _ _ _ _ HF2.out]; rfl
        have hr9 := fun d os => cell_regrown hc1 d os
        have hr10 := fun d os => cell_regrown hc2 d os
        have hr11 := fun d os => cell_regrown hc8 d os
        refine wp_region_quiet_below (by kernel_rfl) (by kernel_rfl) ?_
        repeat (any_goals (first | go_big_quiet_step (fail) | quiet_step (fail)))
        refine wpQuiet_nil ?_
        intro w1 hw1
        have hb1 := below_anyY hw1
        clear hw1 hr9 hr10 hr11
        clear hc1 hc2 hc8
        have HF12 := Lib.hid (blk_below HF2.out hb1)
        have HB13 := Lib.hid (HB3.out.trans (hb1.mono HB3.out.size))
        clear hb1 HB3 HF2
        go_wp2_with fail
        go_ret
        exact ⟨cm_retB HR.out.symm, HB13.out⟩
      · skip
        have s1 : (p == q) = false := by
          cases z : (p == q) with
          | false => rfl
          | true => exact absurd (ba_beqC z) hpq
        have s2 : (p.toList == q.toList) = false := by
          cases z : (p.toList == q.toList) with
          | false => rfl
          | true => exact absurd (ba_ext (by simpa using z)) hpq
        have HR := Lib.hid (show cmok k [p, q] g t = true by rw [HALL.out]; simp [hpq])
        clear hpq
        go_upto_region 9 with (fail)
        have hc8 : v.cell? ⟨w.heap.size, 1, none⟩ = some (.slice (some ⟨b, o, none⟩) 2 c) := by rw [cell_of_row _ _ _ _ _ _ HF2.out]; rfl
        have hr9 := fun d os => cell_regrown hc1 d os
        have hr10 := fun d os => cell_regrown hc2 d os
        have hr11 := fun d os => cell_regrown hc8 d os
        refine wp_region_quiet_below (by kernel_rfl) (by kernel_rfl) ?_
        repeat (any_goals (first | go_big_quiet_step (fail) | quiet_step (fail)))
        refine wpQuiet_nil ?_
        intro w1 hw1
        have hb1 := below_anyY hw1
        clear hw1 hr9 hr10 hr11
        clear hc1 hc2 hc8
        have HF12 := Lib.hid (blk_below HF2.out hb1)
        have HB13 := Lib.hid (HB3.out.trans (hb1.mono HB3.out.size))
        clear hb1 HB3 HF2
        go_wp2_with fail
        go_ret
        exact ⟨cm_retB HR.out.symm, HB13.out⟩
end Go.Proofs.YtiflieaemgamkaaDoor

namespace Go.Proofs.YtiflieaemgamkaaDoor
open Go.RowKit Vi

set_option linter.unusedSimpArgs false in
set_option maxRecDepth 100000 in
set_option maxHeartbeats 4000000 in
theorem csame_yes (k : Int) (A : Option Addr) (n c : Nat) (A2 : Option Addr) (c2 : Nat) (P : List ByteArray) (g t : ByteArray) (w : World) (h : RdX stC 1 w A n P) (h2 : RdX stC 1 w A2 n P) (hn : n ≤ 100000) :
    Calls Tryd.prog 12 #[.agg #[.int .i64 k, .slice A n c, .string g, .string t], .agg #[.int .i64 k, .slice A2 n c2, .string g, .string t]] w fun e w' => e = .returned (.bool true) ∧ Below w.heap.size w w' := by
  have H := Lib.hid h
  have H2 := Lib.hid h2
  clear h h2
  have s1 : (g == g) = true := by show (g.data == g.data) = true; simp
  have s2 : (t == t) = true := by show (t.data == t.data) = true; simp
  have s3 : ((n : Int) != (n : Int)) = false := by simp
  have HB1 := Lib.hid (Below.refl w.heap.size w)
  have HF2 := Lib.hid (blk_new w (.cells #[.int .i64 k, .slice A n c, .string g, .string t] 41 (0, 0)))
  have HB3 := Lib.hid (HB1.out.alloc HB1.out.size (.cells #[.int .i64 k, .slice A n c, .string g, .string t] 41 (0, 0)))
  clear HB1
  have HF4 := Lib.hid (blk_alloc HF2.out (.cells #[.int .i64 k, .slice A2 n c2, .string g, .string t] 41 (0, 0)))
  clear HF2
  have HF5 : Hid (((w.alloc (.cells #[.int .i64 k, .slice A n c, .string g, .string t] 41 (0, 0))).alloc (.cells #[.int .i64 k, .slice A2 n c2, .string g, .string t] 41 (0, 0))).heap[w.heap.size + 1]? = some (.cells #[.int .i64 k, .slice A2 n c2, .string g, .string t] 41 (0, 0))) := Lib.hid (blk_newN (W := (w.alloc (.cells #[.int .i64 k, .slice A n c, .string g, .string t] 41 (0, 0)))) (o := (.cells #[.int .i64 k, .slice A2 n c2, .string g, .string t] 41 (0, 0))) (by simp))
  have HB6 := Lib.hid (HB3.out.alloc (by have := HB3.out.size; simp at this ⊢ <;> omega) (.cells #[.int .i64 k, .slice A2 n c2, .string g, .string t] 41 (0, 0)))
  clear HB3
  obtain ⟨v, hv⟩ : ∃ v, v = ((w.alloc (.cells #[.int .i64 k, .slice A n c, .string g, .string t] 41 (0, 0))).alloc (.cells #[.int .i64 k, .slice A2 n c2, .string g, .string t] 41 (0, 0))) := ⟨_, rfl⟩
  have HVv := Lib.hid hv
  rw [← hv] at HF4 HF5 HB6
  clear hv
  go_enter Tryd.func12, Tryd.ntmps12
  go_upto_region 1 with (fail)
  rw [← HVv.out]
  have hc7 : v.cell? ⟨w.heap.size, 0, none⟩ = some (.int .i64 k) := by rw [cell_of_row _ _ _ _ _ _ HF4.out]; rfl
  have hc8 : v.cell? ⟨w.heap.size, 1, none⟩ = some (.slice A n c) := by rw [cell_of_row _ _ _ _ _ _ HF4.out]; rfl
  have hc9 : v.cell? ⟨w.heap.size, 2, none⟩ = some (.string g) := by rw [cell_of_row _ _ _ _ _ _ HF4.out]; rfl
  have hc10 : v.cell? ⟨w.heap.size, 3, none⟩ = some (.string t) := by rw [cell_of_row _ _ _ _ _ _ HF4.out]; rfl
  have hc11 : v.cell? ⟨w.heap.size + 1, 0, none⟩ = some (.int .i64 k) := by rw [cell_of_row _ _ _ _ _ _ HF5.out]; rfl
  have hc12 : v.cell? ⟨w.heap.size + 1, 1, none⟩ = some (.slice A2 n c2) := by rw [cell_of_row _ _ _ _ _ _ HF5.out]; rfl
  have hc13 : v.cell? ⟨w.heap.size + 1, 2, none⟩ = some (.string g) := by rw [cell_of_row _ _ _ _ _ _ HF5.out]; rfl
  have hc14 : v.cell? ⟨w.heap.size + 1, 3, none⟩ = some (.string t) := by rw [cell_of_row _ _ _ _ _ _ HF5.out]; rfl
  go_wp2_with fail
  clear hc7 hc8 hc9 hc10 hc11 hc12 hc13 hc14
  clear s1 s2 s3
  go_loopw [37] (fun i wr => ∃ j : Nat, i = .int .i64 (j : Int) ∧ j ≤ n ∧ Below v.heap.size v wr) (fun i _ => n - (intOf i).toNat)
  case atStart => exact ⟨0, rfl, Nat.zero_le _, Below.refl _ _⟩
  case round =>
    obtain ⟨j, rfl, hj, hb⟩ := hrel
    have HQ := Lib.hid hb
    have HXc := Lib.hid (blk_below HF4.out hb)
    have HXd := Lib.hid (blk_below HF5.out hb)
    have HB := Lib.hid (HB6.out.trans (hb.mono HB6.out.size))
    clear hb
    by_cases hlt : j < n
    · skip
      have hd1 : decide ((j : Int) < (n : Int)) = true := decide_eq_true (by omega)
      have hi0 : (0 : Int) ≤ (j : Int) := by omega
      have hw1 : IntKind.i64.wrap ((j : Int) + 1) = (j : Int) + 1 := IntWalk.i64_in _ (by omega)
      have hl : j < P.length := by have := H.out.1; omega
      obtain ⟨b1, o1, _, rfl, _, hc1⟩ := (H.out.below HB.out).at hlt
      obtain ⟨b2, o2, _, rfl, _, hc2⟩ := (H2.out.below HB.out).at hlt
      obtain ⟨x, hx⟩ : ∃ x, P[j] = x := ⟨_, rfl⟩
      have e1 : wr.cell? ⟨b1, o1 + j, none⟩ = some (.string x) := by have q := hc1 0 (.string P[j]) rfl; rw [hx] at q; simpa using q
      have e2 : wr.cell? ⟨b2, o2 + j, none⟩ = some (.string x) := by have q := hc2 0 (.string P[j]) rfl; rw [hx] at q; simpa using q
      clear hc1 hc2 hx hl
      have s1 : (x == x) = true := by show (x.data == x.data) = true; simp
      have hce1 := e1
      have hce2 := e2
      clear e1 e2
      have hc15 : wr.cell? ⟨w.heap.size, 1, none⟩ = some (.slice (some ⟨b1, o1, none⟩) n c) := by rw [cell_of_row _ _ _ _ _ _ HXc.out]; rfl
      have hc16 : wr.cell? ⟨w.heap.size + 1, 1, none⟩ = some (.slice (some ⟨b2, o2, none⟩) n c2) := by rw [cell_of_row _ _ _ _ _ _ HXd.out]; rfl
      go_upto_region 6 with (fail)
      have hr17 := fun d os => cell_regrown hce1 d os
      have hr18 := fun d os => cell_regrown hce2 d os
      have hr19 := fun d os => cell_regrown hc15 d os
      have hr20 := fun d os => cell_regrown hc16 d os
      refine wp_region_quiet_below (by kernel_rfl) (by kernel_rfl) ?_
      repeat (any_goals (first | go_big_quiet_step (fail) | quiet_step (fail)))
      refine wpQuiet_nil ?_
      intro w1 hw1
      have hb1 := below_anyY hw1
      clear hw1 hr17 hr18 hr19 hr20
      clear hce1 hce2 hc15 hc16
      have HF21 := Lib.hid (blk_below HXc.out hb1)
      have HF22 := Lib.hid (blk_below HXd.out hb1)
      have HB23 := Lib.hid (HB.out.trans (hb1.mono HB.out.size))
      have HQ2 := Lib.hid (HQ.out.trans (hb1.mono HQ.out.size))
      clear hb1 HB HXc HXd
      clear s1
      go_wp2_with fail
      go_roundw
      case rel => exact ⟨j + 1, by go_num, by omega, HQ2.out⟩
      case measure => simp [intOf] <;> omega
    · skip
      have hd1 : decide ((j : Int) < (n : Int)) = false := decide_eq_false (by omega)
      go_wp2_with fail
      go_ret
      exact ⟨rfl, HB.out⟩
end Go.Proofs.YtiflieaemgamkaaDoor

namespace Go.Proofs.YtiflieaemgamkaaDoor
open Go.RowKit Vi

theorem strS_of {w : World} {A : Option Addr} {n : Nat} {P : List ByteArray} (h : RdX stC 1 w A n P) : StrS w A n P := by
  refine ⟨h.1, fun hp => ?_⟩
  obtain ⟨b, o, e, _, hc⟩ := h.2 hp
  refine ⟨b, o, e, fun j hj => ?_⟩
  have q := hc j P[j] 0 (.string P[j]) (List.getElem?_eq_getElem hj) rfl
  simpa using q
/-- gone through: so few, of so few bytes -/
def FewC (n : Nat) (P : List ByteArray) (g t : ByteArray) (w : World) (e : Ending) (w' : World) : Prop := ∃ b : Bool, e = .returned (.bool b) ∧ (b = true → n ≤ 5 ∧ (catS P).length ≤ 500 ∧ g.size ≤ 200 ∧ t.size ≤ 200) ∧ Below w.heap.size w w'
end Go.Proofs.YtiflieaemgamkaaDoor

namespace Go.Proofs.YtiflieaemgamkaaDoor
open Go.RowKit Vi

theorem ba_extC {a b : ByteArray} (h : a.data.toList = b.data.toList) : a = b := by
  apply ByteArray.ext
  exact Array.toList_inj.1 h
theorem ba_lenC (a : ByteArray) : a.data.toList.length = a.size := by simp
theorem ba_appC (a b : ByteArray) : (a ++ b).data.toList = a.data.toList ++ b.data.toList := by simp
theorem ba_fromC (s : ByteArray) (p : Nat) : (s.extract p s.size).data.toList = s.data.toList.drop p := by
  rw [ByteArray.data_extract, Array.toList_extract]
  simp only [List.extract]
  exact List.take_of_length_le (by simp)
theorem ba_uptoC (s : ByteArray) (n : Nat) : (s.extract 0 n).data.toList = s.data.toList.take n := by
  rw [ByteArray.data_extract, Array.toList_extract]
  simp [List.extract]
theorem gb_someC {l : List UInt8} (h : gb l = true) : ∃ t, l = put (gn l) ++ t ∧ gk l = (put (gn l)).length ∧ gn l < 18446744073709551616 := by
  unfold gb at h
  cases hg : get l with
  | none => rw [hg] at h; cases h
  | some p =>
    obtain ⟨m, k⟩ := p
    have h1 := get_some hg
    unfold gn gk
    rw [hg]
    exact h1
theorem num_isC (S : ByteArray) (q m : Nat) (n : Int) (t : List UInt8) (h : S.data.toList.drop q = put m ++ t) (hm : m < 18446744073709551616) (hn : (m : Int) ≤ n) : Rd.num S q 0 n = ((m : Int), q + (put m).length, 0) := by
  have hg := get_put m t hm
  have e1 : gn (put m ++ t) = m := by unfold gn; rw [hg]
  have e2 : gk (put m ++ t) = (put m).length := by unfold gk; rw [hg]
  have e3 : gb (put m ++ t) = true := by unfold gb; rw [hg]
  unfold Rd.num
  rw [h, e1, e2, e3, if_neg (by simp), if_neg (by simp), if_neg (by omega)]
theorem num_ofC (S : ByteArray) (q : Nat) (er n v : Int) (q' : Nat) (h : Rd.num S q er n = (v, q', 0)) :
    er = 0 ∧ ∃ m : Nat, v = m ∧ q' = q + (put m).length ∧ S.data.toList.drop q = put m ++ S.data.toList.drop q' ∧ (m : Int) ≤ n := by
  unfold Rd.num at h
  by_cases he : er = 0
  · subst he
    rw [if_neg (by simp)] at h
    by_cases hb : gb (S.data.toList.drop q) = true
    · rw [if_neg (by simp [hb])] at h
      by_cases hm : n < 0 ∨ n < gn (S.data.toList.drop q)
      · rw [if_pos hm] at h
        simp at h
      · rw [if_neg hm] at h
        simp only [Prod.mk.injEq, and_true] at h
        obtain ⟨h1, h2⟩ := h
        obtain ⟨t, ht, hk, _⟩ := gb_someC hb
        refine ⟨rfl, gn (S.data.toList.drop q), h1.symm, by rw [← h2, hk], ?_, by omega⟩
        rw [← h2, ← List.drop_drop, hk]
        generalize gn (S.data.toList.drop q) = m at ht
        have e := congrArg (List.drop (put m).length) ht
        rw [List.drop_left] at e
        rw [e]
        exact ht
    · rw [if_pos (by simpa using hb)] at h
      simp at h
  · rw [if_pos he] at h
    simp only [Prod.mk.injEq] at h
    exact absurd h.2.2 he
theorem fix_isC (S : ByteArray) (q : Nat) (x : ByteArray) (t : List UInt8) (hq : q ≤ S.size) (h : S.data.toList.drop q = x.data.toList ++ t) : Rd.fix S q 0 (x.size : Int) = (x, q + x.size, 0) := by
  have hl := congrArg List.length h
  simp only [List.length_drop, List.length_append, ba_lenC] at hl
  unfold Rd.fix
  rw [if_neg (by simp), if_neg (by omega)]
  have e : (S.extract q S.size).extract 0 (x.size : Int).toNat = x := by
    apply ba_extC
    rw [ba_uptoC, ba_fromC, h, show (x.size : Int).toNat = x.data.toList.length by rw [ba_lenC]; omega, List.take_left]
  rw [e]
  rfl
theorem fix_ofC (S : ByteArray) (q : Nat) (er n : Int) (x : ByteArray) (q' : Nat) (hq : q ≤ S.size) (h : Rd.fix S q er n = (x, q', 0)) :
    er = 0 ∧ n = (x.size : Int) ∧ q' = q + x.size ∧ S.data.toList.drop q = x.data.toList ++ S.data.toList.drop q' := by
  unfold Rd.fix at h
  by_cases he : er = 0
  · subst he
    rw [if_neg (by simp)] at h
    by_cases hn : n < 0 ∨ (S.size : Int) - q < n
    · rw [if_pos hn] at h
      simp at h
    · rw [if_neg hn] at h
      simp only [Prod.mk.injEq, and_true] at h
      obtain ⟨h1, h2⟩ := h
      have hx : x.size = n.toNat := by
        rw [← h1, ByteArray.size_extract, ByteArray.size_extract]
        omega
      refine ⟨rfl, by omega, by omega, ?_⟩
      rw [← h2, ← List.drop_drop, ← h1, ba_uptoC, ba_fromC, List.take_append_drop]
  · rw [if_pos he] at h
    simp only [Prod.mk.injEq] at h
    exact absurd h.2.2 he
theorem text_isC (S : ByteArray) (q : Nat) (n : Int) (x : ByteArray) (t : List UInt8) (h : S.data.toList.drop q = put x.size ++ (x.data.toList ++ t)) (hx : x.size < 18446744073709551616) (hn : (x.size : Int) ≤ n) :
    Rd.text S q 0 n = (x, q + (put x.size).length + x.size, 0) := by
  have hl := congrArg List.length h
  simp only [List.length_drop, List.length_append, ba_lenC] at hl
  unfold Rd.text
  rw [num_isC S q x.size n _ h hx hn]
  refine fix_isC S (q + (put x.size).length) x t ?_ ?_
  · by_cases hq : q ≤ S.size
    · omega
    · have : 1 ≤ (put x.size).length := by unfold put; rw [leb]; split <;> simp
      omega
  · rw [← List.drop_drop, h, List.drop_left]
theorem text_ofC (S : ByteArray) (q : Nat) (er n : Int) (x : ByteArray) (q' : Nat) (hq : q ≤ S.size) (h : Rd.text S q er n = (x, q', 0)) :
    er = 0 ∧ (x.size : Int) ≤ n ∧ q' = q + (put x.size).length + x.size ∧ S.data.toList.drop q = put x.size ++ (x.data.toList ++ S.data.toList.drop q') := by
  unfold Rd.text at h
  obtain ⟨v, q1, e1, hR⟩ : ∃ v q1 e1, Rd.num S q er n = (v, q1, e1) := ⟨_, _, _, rfl⟩
  have hq1 := Rd.num_le S q er n hq
  rw [hR] at h hq1
  obtain ⟨h1, h2, h3, h4⟩ := fix_ofC S q1 e1 v x q' hq1 h
  subst h1
  obtain ⟨k1, m, k2, k3, k4, k5⟩ := num_ofC S q er n v q1 hR
  have hm : m = x.size := by omega
  subst hm
  exact ⟨k1, k5, by omega, by rw [k4, h4]⟩
theorem fin_ofC (S : ByteArray) (q : Nat) (er : Int) (h : Rd.fin S q er = 0) : er = 0 ∧ S.data.toList.drop q = [] := by
  unfold Rd.fin at h
  by_cases he : er = 0
  · refine ⟨he, ?_⟩
    rw [if_neg (by simpa using he)] at h
    by_cases hq : q < S.size
    · rw [if_pos hq] at h; exact absurd h (by decide)
    · exact List.drop_eq_nil_of_le (by rw [ba_lenC]; omega)
  · rw [if_pos he] at h; exact absurd h he
theorem fin_isC (S : ByteArray) (q : Nat) (h : S.data.toList.drop q = []) : Rd.fin S q 0 = 0 := by
  have hl := congrArg List.length h
  simp only [List.length_drop, ba_lenC, List.length_nil] at hl
  unfold Rd.fin
  rw [if_neg (by simp), if_neg (by omega)]
theorem num_erC (S : ByteArray) (q : Nat) (er n : Int) (he : er ≠ 0) : Rd.num S q er n = (0, q, er) := by unfold Rd.num; rw [if_pos he]


/-- texts, one behind the other -/
def catB (P : List ByteArray) : ByteArray := P.foldl (· ++ ·) ⟨#[]⟩
theorem ba_nilC (a : ByteArray) : (⟨#[]⟩ : ByteArray) ++ a = a := by apply ba_extC; rw [ba_appC]; rfl
theorem ba_nil2C (a : ByteArray) : a ++ (⟨#[]⟩ : ByteArray) = a := by apply ba_extC; rw [ba_appC]; simp
theorem catB_snoc (l : List ByteArray) (x : ByteArray) : catB (l ++ [x]) = catB l ++ x := by unfold catB; rw [List.foldl_append]; rfl
theorem catB_one (p : ByteArray) : catB [p] = p := ba_nilC p
theorem catB_two (p q : ByteArray) : catB [p, q] = ⟨(p.data.toList ++ q.data.toList).toArray⟩ := by
  show ((⟨#[]⟩ : ByteArray) ++ p) ++ q = _
  rw [ba_nilC]
  apply ba_extC
  rw [ba_appC]
set_option maxRecDepth 100000 in
theorem cgrow_any (B b n : Nat) (w : World) (hB : B ≤ b) (hbk : w.heap[b]? = some (.cells #[.pointer none, .slice none 0 0] 129 (0, 0))) (hBw : B ≤ w.heap.size) (hn : n ≤ 281474976710656) :
    Calls Tryd.prog 77 #[.pointer (some ⟨b, 0, none⟩), .int .i64 n] w fun e w' => e = .returned (.tuple #[]) ∧ Bld w' B b [] ∧ Below B w w' :=
  (by first
    | exact Tryd.Builder_Grow_fresh B b n w hB hbk hBw hn
    | exact Go.Proofs.Any.Builder_Grow_fresh { Tryd.lays105 with } Tryd.Builder_Extra_105 B b n w hB hbk hBw hn : Calls Tryd.prog 77 #[.pointer (some ⟨b, 0, none⟩), .int .i64 n] w fun e w' => e = .returned (.tuple #[]) ∧ (Lib.BuilderAt 129 5 B b (.pointer (some ⟨b, 0, none⟩)) [] w' ∧ Below B w w')).mono fun _ _ ⟨h1, h2, h3⟩ => ⟨h1, .inr (Lib.BuilderAtF.of h2), h3⟩
end Go.Proofs.YtiflieaemgamkaaDoor

namespace Go.Proofs.YtiflieaemgamkaaDoor
open Go.RowKit Vi

set_option linter.unusedSimpArgs false in
set_option maxRecDepth 100000 in
set_option maxHeartbeats 4000000 in
theorem cjoin_any (A : Option Addr) (n c : Nat) (P : List ByteArray) (w : World) (h : RdX stC 1 w A n P) (hn : n ≤ 2) (hc : n ≤ c) (h32 : ∀ s ∈ P, s.size = 32) :
    Calls Tryd.prog 60 #[.slice A n c, .string ⟨#[]⟩] w fun e w' => e = .returned (.string (catB P)) ∧ Below w.heap.size w w' := by
  have hl := h.1
  match P, h, hl, h32 with
  | [], h, hl, h32 =>
    obtain rfl : n = 0 := hl.symm
    clear h h32
    go_enter Tryd.func60, Tryd.ntmps60
    go_wp2_with fail
    go_ret
    exact ⟨rfl, Below.refl _ _⟩
  | [p], h, hl, h32 =>
    obtain rfl : n = 1 := hl.symm
    obtain ⟨b, off, _, rfl, hbb, hcc⟩ := h.at (Nat.zero_lt_succ 0)
    have c0 : w.cell? ⟨b, off, none⟩ = some (.string p) := by have q := hcc 0 (.string p) rfl; simpa using q
    rw [catB_one]
    clear h h32 hcc
    go_enter Tryd.func60, Tryd.ntmps60
    go_wp2_with fail
    go_ret
    exact ⟨rfl, Below.refl _ _⟩
  | [p, q], h, hl, h32 =>
    obtain rfl : n = 2 := hl.symm
    have hp : p.size = 32 := h32 p (by simp)
    have hq : q.size = 32 := h32 q (by simp)
    obtain ⟨b, off, _, rfl, hbb, hcc⟩ := h.at (Nat.zero_lt_succ 1)
    have HR := Lib.hid h
    have HC0 := Lib.hid (fun (W : World) (g : Below w.heap.size w W) => (by have y := (h.below g).cellAt (k := 0) (x := p) rfl (by omega) 0 (.string p) rfl; simpa using y : W.cell? ⟨b, off, none⟩ = some (.string p)))
    have HC1 := Lib.hid (fun (W : World) (g : Below w.heap.size w W) => (by have y := (h.below g).cellAt (k := 1) (x := q) rfl (by omega) 0 (.string q) rfl; simpa using y : W.cell? ⟨b, off + 1, none⟩ = some (.string q)))
    have HCAT := Lib.hid (catB_two p q)
    have i1 : (1 : Int) ≤ (c : Int) := by omega
    have i2 : (2 : Int) ≤ (c : Int) := by omega
    have HP := Lib.hid hp
    have HQ := Lib.hid hq
    have hp2 : (p.size : Int) = 32 := by omega
    have hq2 : (q.size : Int) = 32 := by omega
    clear h h32 hcc hp hq
    go_enter Tryd.func60, Tryd.ntmps60
    go_wp2_with fail
    go_loopw [5, 41] (fun s i wr => ∃ k : Nat, i = .int .i64 (k : Int) ∧ k ≤ 2 ∧ s = .int .i64 (32 * (k : Int)) ∧ wr = w) (fun _ i _ => 2 - (intOf i).toNat)
    case atStart => exact ⟨0, rfl, Nat.zero_le _, rfl, rfl⟩
    case round =>
      obtain ⟨k, rfl, hk, rfl, rfl⟩ := hrel
      have c0 := HC0.out wr (Below.refl _ _)
      have c1 := HC1.out wr (Below.refl _ _)
      rcases (show k = 0 ∨ k = 1 ∨ k = 2 by omega) with rfl | rfl | rfl
      · go_wp2_with fail
        go_roundw
        case rel => exact ⟨1, by go_num, by omega, by go_num, trivial⟩
        case measure => simp [intOf]
      · go_wp2_with fail
        go_roundw
        case rel => exact ⟨2, by go_num, by omega, by go_num, trivial⟩
        case measure => simp [intOf]
      · clear c0 c1
        obtain ⟨wq, hwq⟩ : ∃ z, z = wr := ⟨_, rfl⟩
        subst hwq
        have HB1 := Lib.hid ((Below.refl wq.heap.size wq).alloc (Nat.le_refl _) (.cells #[.pointer none, .slice none 0 0] 129 (0, 0)))
        have HN1 := Lib.hid (blk_new wq (.cells #[.pointer none, .slice none 0 0] 129 (0, 0)))
        go_wp2_with fail
        refine (cgrow_any wq.heap.size wq.heap.size 64 _ (Nat.le_refl _) HN1.out HB1.out.size (by omega)).mono ?_
        rintro e w2 ⟨rfl, hbl, hb⟩
        have HBL := Lib.hid hbl
        have HB2 := Lib.hid (HB1.out.trans hb)
        clear hbl hb HB1 HN1
        have c0 := HC0.out w2 HB2.out
        go_wp2_with fail
        clear c0
        refine (write_any wq.heap.size wq.heap.size [] p w2 HBL.out (by rw [HP.out, List.length_nil]; omega) HB2.out.size).mono ?_
        rintro e w3 ⟨rfl, hbl, hb⟩
        have HBL3 := Lib.hid hbl
        have HB3 := Lib.hid (HB2.out.trans hb)
        clear hbl hb HBL HB2
        go_wp2_with fail
        go_loopw [65] (fun i w4 => (i = .int .i64 0 ∧ Bld w4 wq.heap.size wq.heap.size p.data.toList ∧ Below wq.heap.size wq w4) ∨ (i = .int .i64 1 ∧ Bld w4 wq.heap.size wq.heap.size (p.data.toList ++ q.data.toList) ∧ Below wq.heap.size wq w4)) (fun i _ => 1 - (intOf i).toNat)
        case atStart => exact .inl ⟨rfl, HBL3.out, HB3.out⟩
        case round =>
          clear HBL3 HB3
          rcases hrel with ⟨rfl, hbl, hb⟩ | ⟨rfl, hbl, hb⟩
          · have HBL4 := Lib.hid hbl
            have HB4 := Lib.hid hb
            have c1 := HC1.out _ hb
            clear hbl hb
            go_wp2_with fail
            clear c1
            refine (write_any wq.heap.size wq.heap.size p.data.toList ⟨#[]⟩ _ HBL4.out (by rw [ba_lenC, HP.out]; show 32 + 0 ≤ 10000000; omega) HB4.out.size).mono ?_
            rintro e w5 ⟨rfl, hbl, hb⟩
            have HBL5 := Lib.hid (show Bld w5 wq.heap.size wq.heap.size p.data.toList from by have e : p.data.toList ++ (⟨#[]⟩ : ByteArray).data.toList = p.data.toList := List.append_nil _; rw [← e]; exact hbl)
            have HB5 := Lib.hid (HB4.out.trans hb)
            clear hbl hb HBL4 HB4
            go_wp2_with fail
            refine (write_any wq.heap.size wq.heap.size p.data.toList q _ HBL5.out (by rw [ba_lenC, HP.out, HQ.out]; omega) HB5.out.size).mono ?_
            rintro e w6 ⟨rfl, hbl, hb⟩
            have HBL6 := Lib.hid hbl
            have HB6 := Lib.hid (HB5.out.trans hb)
            clear hbl hb HBL5 HB5
            go_wp2_with fail
            go_roundw
            case rel => exact .inr ⟨by go_num, HBL6.out, HB6.out⟩
            case measure => simp [intOf]
          · have HBL4 := Lib.hid hbl
            have HB4 := Lib.hid hb
            clear hbl hb
            have hne : p.data.toList ++ q.data.toList ≠ [] := fun e => by
              have y := congrArg List.length e
              rw [List.length_append, ba_lenC, ba_lenC, HP.out, HQ.out] at y
              rw [List.length_nil] at y
              omega
            go_wp2_with fail
            refine (bstr_some wq.heap.size wq.heap.size _ _ HBL4.out hne).mono ?_
            rintro e w5 ⟨rfl, hb⟩
            have HB5 := Lib.hid (HB4.out.trans hb)
            clear hb
            go_wp2_with fail
            go_ret
            refine ⟨?_, HB5.out⟩
            rw [HCAT.out]
            first | done | simp
  | _ :: _ :: _ :: _, h, hl, h32 => exact absurd hl (by simp only [List.length_cons]; omega)
end Go.Proofs.YtiflieaemgamkaaDoor

namespace Go.Proofs.YtiflieaemgamkaaDoor
open Go.RowKit Vi

def pnC (k : Int) : ByteArray := ⟨(put k.toNat).toArray⟩
def ptC (t : ByteArray) : ByteArray := ⟨(put t.size).toArray⟩ ++ t
def hdC (k n : Int) : ByteArray := (⟨#[67]⟩ ++ pnC k) ++ pnC n
/-- the text of a commit -/
def cmT (k : Int) (P : List ByteArray) (g t : ByteArray) : ByteArray := ((hdC k (P.length : Int) ++ catB P) ++ g) ++ ptC t
theorem pnC_size (k : Int) : (pnC k).size ≤ 10 := by
  show (put k.toNat).toArray.size ≤ 10
  rw [List.size_toArray]
  exact put_len _
theorem ptC_size (t : ByteArray) : (ptC t).size ≤ 10 + t.size := by
  unfold ptC
  rw [ByteArray.size_append]
  have h : (⟨(put t.size).toArray⟩ : ByteArray).size ≤ 10 := by
    show (put t.size).toArray.size ≤ 10
    rw [List.size_toArray]
    exact put_len _
  omega
theorem catB_sizeC : ∀ (P : List ByteArray) (a : ByteArray), (∀ s ∈ P, s.size = 32) → (P.foldl (· ++ ·) a).size = a.size + 32 * P.length
  | [], a, _ => by simp
  | x :: r, a, h => by
    rw [List.foldl_cons, catB_sizeC r (a ++ x) (fun s hs => h s (by simp [hs])), ByteArray.size_append, h x (by simp), List.length_cons]
    omega
theorem catB_size {P : List ByteArray} (h : ∀ s ∈ P, s.size = 32) : (catB P).size = 32 * P.length := by
  unfold catB
  rw [catB_sizeC P _ h]
  show 0 + _ = _
  omega
structure CmOk (k : Int) (P : List ByteArray) (g t : ByteArray) : Prop where
  k1 : 1 ≤ k
  k2 : k ≤ 4294967295
  n : P.length ≤ 2
  p : ∀ s ∈ P, s.size = 32
  g : g.size = 32
  t : t.size ≤ 40
theorem cmok_of {k : Int} {P : List ByteArray} {g t : ByteArray} (h : cmok k P g t = true) : CmOk k P g t := by
  unfold cmok at h
  simp only [Bool.and_eq_true, decide_eq_true_eq, Bool.not_eq_true', badH, Bool.not_eq_false'] at h
  obtain ⟨⟨⟨⟨⟨⟨h1, h2⟩, h3⟩, h4⟩, _⟩, h6⟩, h7⟩ := h
  refine ⟨h1, h2, h3, fun s hs => ?_, h6, h7⟩
  have q := List.any_eq_false.1 h4 s hs
  simpa [badH] using q
theorem ba_assocC (a b c : ByteArray) : (a ++ b) ++ c = a ++ (b ++ c) := by apply ba_extC; simp only [ba_appC, List.append_assoc]
section
variable {k : Int} {A : Option Addr} {n c : Nat} {P : List ByteArray} {g t : ByteArray} {w : World}
def cmV (k : Int) (P : List ByteArray) (g t : ByteArray) : Value := if cmok k P g t = true then .tuple #[.string (cmT k P g t), .int .i64 0] else .tuple #[.string ⟨#[]⟩, .int .i64 2]
set_option linter.unusedSimpArgs false in
set_option maxRecDepth 100000 in
set_option maxHeartbeats 4000000 in
theorem cput_any (h : RdX stC 1 w A n P) (hn : n ≤ 100000) (hc : n ≤ c) :
    Calls Tryd.prog 37 #[.agg #[.int .i64 k, .slice A n c, .string g, .string t]] w fun e w' => e = .returned (cmV k P g t) ∧ Below w.heap.size w w' := by
  have H := Lib.hid h
  have LL := Lib.hid h.1
  have HF := Lib.hid (blk_new w (.cells #[.int .i64 k, .slice A n c, .string g, .string t] 41 (0, 0)))
  have HB := Lib.hid ((Below.refl w.heap.size w).alloc (Nat.le_refl _) (.cells #[.int .i64 k, .slice A n c, .string g, .string t] 41 (0, 0)))
  obtain ⟨v, hv⟩ : ∃ v, v = w.alloc (.cells #[.int .i64 k, .slice A n c, .string g, .string t] 41 (0, 0)) := ⟨_, rfl⟩
  have HV := Lib.hid hv
  rw [← hv] at HF HB
  have HCK := Lib.hid (fun (W : World) (q : RdX stC 1 W A n P) => ccheck_any k A n c P g t W q hn)
  cases hok : cmok k P g t with
  | false =>
    unfold chkC at HCK
    rw [hok] at HCK
    rw [cmV, if_neg (by rw [hok]; simp)]
    clear h hok hv
    simp only [Bool.false_eq_true, if_false] at HCK
    go_enter Tryd.func37, Tryd.ntmps37
    go_upto_region 1 with (fail)
    rw [← HV.out]
    clear HV
    have y0 : v.cell? ⟨w.heap.size, 0, none⟩ = some (.int .i64 k) := (cell_of_row _ _ 0 _ _ _ HF.out).trans rfl
    have y1 : v.cell? ⟨w.heap.size, 1, none⟩ = some (.slice A n c) := (cell_of_row _ _ 1 _ _ _ HF.out).trans rfl
    have y2 : v.cell? ⟨w.heap.size, 2, none⟩ = some (.string g) := (cell_of_row _ _ 2 _ _ _ HF.out).trans rfl
    have y3 : v.cell? ⟨w.heap.size, 3, none⟩ = some (.string t) := (cell_of_row _ _ 3 _ _ _ HF.out).trans rfl
    go_wp2_with fail
    clear y0 y1 y2 y3
    refine (HCK.out v (H.out.below HB.out)).mono ?_
    rintro e w1 ⟨rfl, hb⟩
    have HF1 := Lib.hid (blk_below HF.out hb)
    have HB1 := Lib.hid (HB.out.trans (hb.mono HB.out.size))
    clear hb HF HB
    go_wp2_with fail
    go_ret2
    exact ⟨rfl, HB1.out⟩
  | true =>
    have K := cmok_of hok
    unfold chkC at HCK
    rw [hok, if_pos rfl] at HCK
    rw [cmV, if_pos hok]
    have hk2 := K.k2
    have hn2 : n ≤ 2 := by have := K.n; rw [LL.out] at this; exact this
    have P0 := Lib.hid (fun W : World => (show Calls Tryd.prog 59 #[.int .i64 k] W fun e w' => e = .returned (.string (pnC k)) ∧ Below W.heap.size W w' from putNum_any k W (by omega)))
    have P1 := Lib.hid (fun W : World => (show Calls Tryd.prog 59 #[.int .i64 (n : Int)] W fun e w' => e = .returned (.string (pnC (n : Int))) ∧ Below W.heap.size W w' from putNum_any (n : Int) W (by omega)))
    have P2 := Lib.hid (fun W : World => (show Calls Tryd.prog 61 #[.string t] W fun e w' => e = .returned (.string (ptC t)) ∧ Below W.heap.size W w' from putText_any t W (by have := K.t; omega)))
    have PJ := Lib.hid (fun (W : World) (q : RdX stC 1 W A n P) => cjoin_any A n c P W q hn2 hc K.p)
    have hE : cmT k P g t = ((((⟨#[67]⟩ ++ pnC k) ++ pnC (n : Int)) ++ catB P) ++ g) ++ ptC t := by rw [cmT, LL.out]; rfl
    have z0 := pnC_size k
    have z1 := pnC_size (n : Int)
    have z2 := ptC_size t
    have z3 : (catB P).size ≤ 64 := by rw [catB_size K.p]; have := K.n; omega
    have z4 := K.g
    have z5 := K.t
    have HKP := Lib.hid K.p
    generalize pnC k = p0 at *
    generalize pnC (n : Int) = p1 at *
    generalize ptC t = p2 at *
    generalize catB P = cb at *
    obtain ⟨s0, t0⟩ : ∃ s, s = (⟨#[67]⟩ ++ p0 : ByteArray) := ⟨_, rfl⟩
    obtain ⟨s1, t1⟩ : ∃ s, s = s0 ++ p1 := ⟨_, rfl⟩
    obtain ⟨s2, t2⟩ : ∃ s, s = s1 ++ cb := ⟨_, rfl⟩
    obtain ⟨s3, t3⟩ : ∃ s, s = s2 ++ g := ⟨_, rfl⟩
    obtain ⟨s4, t4⟩ : ∃ s, s = s3 ++ p2 := ⟨_, rfl⟩
    rw [← t0, ← t1, ← t2, ← t3, ← t4] at hE
    have x0 : s0.size = 1 + p0.size := by rw [t0, ByteArray.size_append]; rfl
    have x1 : s1.size = s0.size + p1.size := by rw [t1, ByteArray.size_append]
    have x2 : s2.size = s1.size + cb.size := by rw [t2, ByteArray.size_append]
    have x3 : s3.size = s2.size + g.size := by rw [t3, ByteArray.size_append]
    have q0 : ∀ W, (Op.stringOp .add ⟨#[67]⟩ p0).run Tryd.prog W = .ok (.string s0) W := fun W => by rw [t0]; exact run_string_add_sum W _ _ (by show 1 + p0.size ≤ _; omega)
    have q1 : ∀ W, (Op.stringOp .add s0 p1).run Tryd.prog W = .ok (.string s1) W := fun W => by rw [t1]; exact run_string_add_sum W _ _ (by omega)
    have q2 : ∀ W, (Op.stringOp .add s1 cb).run Tryd.prog W = .ok (.string s2) W := fun W => by rw [t2]; exact run_string_add_sum W _ _ (by omega)
    have q3 : ∀ W, (Op.stringOp .add s2 g).run Tryd.prog W = .ok (.string s3) W := fun W => by rw [t3]; exact run_string_add_sum W _ _ (by omega)
    have q4 : ∀ W, (Op.stringOp .add s3 p2).run Tryd.prog W = .ok (.string s4) W := fun W => by rw [t4]; exact run_string_add_sum W _ _ (by omega)
    have HE := Lib.hid hE
    clear hE h hok hv K hk2 t0 t1 t2 t3 t4 x0 x1 x2 x3 z0 z1 z2 z3 z4 z5
    go_enter Tryd.func37, Tryd.ntmps37
    go_upto_region 1 with (fail)
    rw [← HV.out]
    clear HV
    have y0 : v.cell? ⟨w.heap.size, 0, none⟩ = some (.int .i64 k) := (cell_of_row _ _ 0 _ _ _ HF.out).trans rfl
    have y1 : v.cell? ⟨w.heap.size, 1, none⟩ = some (.slice A n c) := (cell_of_row _ _ 1 _ _ _ HF.out).trans rfl
    have y2 : v.cell? ⟨w.heap.size, 2, none⟩ = some (.string g) := (cell_of_row _ _ 2 _ _ _ HF.out).trans rfl
    have y3 : v.cell? ⟨w.heap.size, 3, none⟩ = some (.string t) := (cell_of_row _ _ 3 _ _ _ HF.out).trans rfl
    go_wp2_with fail
    clear y0 y1 y2 y3
    refine (HCK.out v (H.out.below HB.out)).mono ?_
    rintro e w1 ⟨rfl, hb⟩
    have HF1 := Lib.hid (blk_below HF.out hb)
    have HB1 := Lib.hid (HB.out.trans (hb.mono HB.out.size))
    clear hb HF HB
    go_upto_region 4 with (fail)
    have y0 : w1.cell? ⟨w.heap.size, 0, none⟩ = some (.int .i64 k) := (cell_of_row _ _ 0 _ _ _ HF1.out).trans rfl
    have r0 := fun d os => cell_regrown y0 d os
    have y1 : w1.cell? ⟨w.heap.size, 1, none⟩ = some (.slice A n c) := (cell_of_row _ _ 1 _ _ _ HF1.out).trans rfl
    have r1 := fun d os => cell_regrown y1 d os
    clear y0 y1
    refine wp_region_quiet_below (by kernel_rfl) (by kernel_rfl) ?_
    repeat (any_goals (first | go_big_quiet_step ((first | (go_at_call 59; exact Calls.regrown_of (P0.out _)) | (go_at_call 59; exact Calls.regrown_of (P1.out _)))) | quiet_step ((first | (go_at_call 59; exact Calls.regrown_of (P0.out _)) | (go_at_call 59; exact Calls.regrown_of (P1.out _))))))
    refine wpQuiet_nil ?_
    intro w2 hv1
    have hb1 := below_anyY hv1
    clear hv1 r0 r1
    have HF2 := Lib.hid (blk_below HF1.out hb1)
    have HB2 := Lib.hid (HB1.out.trans (hb1.mono HB1.out.size))
    clear hb1 HF1 HB1
    go_upto_region 5 with (fail)
    have y0 : w2.cell? ⟨w.heap.size, 1, none⟩ = some (.slice A n c) := (cell_of_row _ _ 1 _ _ _ HF2.out).trans rfl
    have r0 := fun d os => cell_regrown y0 d os
    have y1 : w2.cell? ⟨w.heap.size, 2, none⟩ = some (.string g) := (cell_of_row _ _ 2 _ _ _ HF2.out).trans rfl
    have r1 := fun d os => cell_regrown y1 d os
    have y2 : w2.cell? ⟨w.heap.size, 3, none⟩ = some (.string t) := (cell_of_row _ _ 3 _ _ _ HF2.out).trans rfl
    have r2 := fun d os => cell_regrown y2 d os
    clear y0 y1 y2
    refine wp_region_quiet_below (by kernel_rfl) (by kernel_rfl) ?_
    repeat (any_goals (first | go_big_quiet_step ((first | (go_at_call 60; exact Calls.regrown_of (PJ.out _ ((H.out.below HB2.out).below (below_regrown _ _ _)))) | (go_at_call 61; exact Calls.regrown_of (P2.out _)))) | quiet_step ((first | (go_at_call 60; exact Calls.regrown_of (PJ.out _ ((H.out.below HB2.out).below (below_regrown _ _ _)))) | (go_at_call 61; exact Calls.regrown_of (P2.out _))))))
    refine wpQuiet_nil ?_
    intro w3 hv1
    have hb1 := below_anyY hv1
    clear hv1 r0 r1 r2
    have HF3 := Lib.hid (blk_below HF2.out hb1)
    have HB3 := Lib.hid (HB2.out.trans (hb1.mono HB2.out.size))
    clear hb1 HF2 HB2
    go_wp2_with fail
    go_ret2
    refine ⟨?_, HB3.out⟩
    rw [HE.out]
    first | done | simp
set_option linter.unusedSimpArgs false in
set_option maxRecDepth 100000 in
set_option maxHeartbeats 4000000 in
theorem crput_any (h : RdX stC 1 w A n P) (hn : n ≤ 100000) :
    Calls Tryd.prog 53 #[.agg #[.int .i64 k, .slice A n c, .string g, .string t]] w fun e w' => e = .returned (.string (if cmok k P g t = true then cmT k P g t else ⟨#[]⟩)) ∧ Below w.heap.size w w' := by
  have H := Lib.hid h
  have LL := Lib.hid h.1
  have HF := Lib.hid (blk_new w (.cells #[.int .i64 k, .slice A n c, .string g, .string t] 41 (0, 0)))
  have HB := Lib.hid ((Below.refl w.heap.size w).alloc (Nat.le_refl _) (.cells #[.int .i64 k, .slice A n c, .string g, .string t] 41 (0, 0)))
  obtain ⟨v, hv⟩ : ∃ v, v = w.alloc (.cells #[.int .i64 k, .slice A n c, .string g, .string t] 41 (0, 0)) := ⟨_, rfl⟩
  have HV := Lib.hid hv
  rw [← hv] at HF HB
  have HCK := Lib.hid (fun (W : World) (q : RdX stC 1 W A n P) => ris_any k A n c P g t W q hn)
  cases hok : cmok k P g t with
  | false =>
    rw [hok] at HCK
    rw [if_neg (by simp)]
    clear h hok hv
    go_enter Tryd.func53, Tryd.ntmps53
    go_upto_region 1 with (fail)
    rw [← HV.out]
    clear HV
    have y0 : v.cell? ⟨w.heap.size, 0, none⟩ = some (.int .i64 k) := (cell_of_row _ _ 0 _ _ _ HF.out).trans rfl
    have y1 : v.cell? ⟨w.heap.size, 1, none⟩ = some (.slice A n c) := (cell_of_row _ _ 1 _ _ _ HF.out).trans rfl
    have y2 : v.cell? ⟨w.heap.size, 2, none⟩ = some (.string g) := (cell_of_row _ _ 2 _ _ _ HF.out).trans rfl
    have y3 : v.cell? ⟨w.heap.size, 3, none⟩ = some (.string t) := (cell_of_row _ _ 3 _ _ _ HF.out).trans rfl
    go_wp2_with fail
    clear y0 y1 y2 y3
    refine (HCK.out v (H.out.below HB.out)).mono ?_
    rintro e w1 ⟨rfl, hb⟩
    have HF1 := Lib.hid (blk_below HF.out hb)
    have HB1 := Lib.hid (HB.out.trans (hb.mono HB.out.size))
    clear hb HF HB
    go_wp2_with fail
    go_ret
    exact ⟨rfl, HB1.out⟩
  | true =>
    have K := cmok_of hok
    rw [hok] at HCK
    rw [if_pos rfl]
    have hk2 := K.k2
    have hn2 : n ≤ 2 := by have := K.n; rw [LL.out] at this; exact this
    have P0 := Lib.hid (fun W : World => (show Calls Tryd.prog 69 #[.int .i64 k] W fun e w' => e = .returned (.string (pnC k)) ∧ Below W.heap.size W w' from refPutNum_any k W (by omega)))
    have P1 := Lib.hid (fun W : World => (show Calls Tryd.prog 69 #[.int .i64 (n : Int)] W fun e w' => e = .returned (.string (pnC (n : Int))) ∧ Below W.heap.size W w' from refPutNum_any (n : Int) W (by omega)))
    have P2 := Lib.hid (fun W : World => (show Calls Tryd.prog 70 #[.string t] W fun e w' => e = .returned (.string (ptC t)) ∧ Below W.heap.size W w' from refPutText_any t W (by have := K.t; omega)))
    have hE : cmT k P g t = ((((⟨#[67]⟩ ++ pnC k) ++ pnC (n : Int)) ++ catB P) ++ g) ++ ptC t := by rw [cmT, LL.out]; rfl
    have z0 := pnC_size k
    have z1 := pnC_size (n : Int)
    have z2 := ptC_size t
    have z3 : (catB P).size ≤ 64 := by rw [catB_size K.p]; have := K.n; omega
    have z4 := K.g
    have z5 := K.t
    have HKP := Lib.hid K.p
    generalize pnC k = p0 at *
    generalize pnC (n : Int) = p1 at *
    generalize ptC t = p2 at *
    obtain ⟨cb, hcb⟩ : ∃ z, z = catB P := ⟨_, rfl⟩
    rw [← hcb] at hE z3
    have HCB := Lib.hid hcb
    obtain ⟨s0, t0⟩ : ∃ s, s = (⟨#[67]⟩ ++ p0 : ByteArray) := ⟨_, rfl⟩
    obtain ⟨s1, t1⟩ : ∃ s, s = s0 ++ p1 := ⟨_, rfl⟩
    obtain ⟨s2, t2⟩ : ∃ s, s = s1 ++ cb := ⟨_, rfl⟩
    obtain ⟨s3, t3⟩ : ∃ s, s = s2 ++ g := ⟨_, rfl⟩
    obtain ⟨s4, t4⟩ : ∃ s, s = s3 ++ p2 := ⟨_, rfl⟩
    rw [← t0, ← t1, ← t2, ← t3, ← t4] at hE
    have x0 : s0.size = 1 + p0.size := by rw [t0, ByteArray.size_append]; rfl
    have x1 : s1.size = s0.size + p1.size := by rw [t1, ByteArray.size_append]
    have x2 : s2.size = s1.size + cb.size := by rw [t2, ByteArray.size_append]
    have x3 : s3.size = s2.size + g.size := by rw [t3, ByteArray.size_append]
    have q0 : ∀ W, (Op.stringOp .add ⟨#[67]⟩ p0).run Tryd.prog W = .ok (.string s0) W := fun W => by rw [t0]; exact run_string_add_sum W _ _ (by show 1 + p0.size ≤ _; omega)
    have q1 : ∀ W, (Op.stringOp .add s0 p1).run Tryd.prog W = .ok (.string s1) W := fun W => by rw [t1]; exact run_string_add_sum W _ _ (by omega)
    have q3 : ∀ W, (Op.stringOp .add s2 g).run Tryd.prog W = .ok (.string s3) W := fun W => by rw [t3]; exact run_string_add_sum W _ _ (by omega)
    have q4 : ∀ W, (Op.stringOp .add s3 p2).run Tryd.prog W = .ok (.string s4) W := fun W => by rw [t4]; exact run_string_add_sum W _ _ (by omega)
    have HE := Lib.hid hE
    have HS1 := Lib.hid (show s1.size ≤ 21 by omega)
    have HT2 := Lib.hid t2
    clear hE h hok hv K hk2 t0 t1 t2 t3 t4 x0 x1 x2 x3 z0 z1 z2 z3 z4 z5 hcb
    go_enter Tryd.func53, Tryd.ntmps53
    go_upto_region 1 with (fail)
    rw [← HV.out]
    clear HV
    have y0 : v.cell? ⟨w.heap.size, 0, none⟩ = some (.int .i64 k) := (cell_of_row _ _ 0 _ _ _ HF.out).trans rfl
    have y1 : v.cell? ⟨w.heap.size, 1, none⟩ = some (.slice A n c) := (cell_of_row _ _ 1 _ _ _ HF.out).trans rfl
    have y2 : v.cell? ⟨w.heap.size, 2, none⟩ = some (.string g) := (cell_of_row _ _ 2 _ _ _ HF.out).trans rfl
    have y3 : v.cell? ⟨w.heap.size, 3, none⟩ = some (.string t) := (cell_of_row _ _ 3 _ _ _ HF.out).trans rfl
    go_wp2_with fail
    clear y0 y1 y2 y3
    refine (HCK.out v (H.out.below HB.out)).mono ?_
    rintro e w1 ⟨rfl, hb⟩
    have HF1 := Lib.hid (blk_below HF.out hb)
    have HB1 := Lib.hid (HB.out.trans (hb.mono HB.out.size))
    clear hb HF HB
    go_upto_region 3 with (fail)
    have y0 : w1.cell? ⟨w.heap.size, 0, none⟩ = some (.int .i64 k) := (cell_of_row _ _ 0 _ _ _ HF1.out).trans rfl
    have r0 := fun d os => cell_regrown y0 d os
    have y1 : w1.cell? ⟨w.heap.size, 1, none⟩ = some (.slice A n c) := (cell_of_row _ _ 1 _ _ _ HF1.out).trans rfl
    have r1 := fun d os => cell_regrown y1 d os
    clear y0 y1
    refine wp_region_quiet_below (by kernel_rfl) (by kernel_rfl) ?_
    repeat (any_goals (first | go_big_quiet_step ((first | (go_at_call 69; exact Calls.regrown_of (P0.out _)) | (go_at_call 69; exact Calls.regrown_of (P1.out _)))) | quiet_step ((first | (go_at_call 69; exact Calls.regrown_of (P0.out _)) | (go_at_call 69; exact Calls.regrown_of (P1.out _))))))
    refine wpQuiet_nil ?_
    intro w2 hv1
    have hb1 := below_anyY hv1
    clear hv1 r0 r1
    have HF2 := Lib.hid (blk_below HF1.out hb1)
    have HB2 := Lib.hid (HB1.out.trans (hb1.mono HB1.out.size))
    clear hb1 HF1 HB1
    have y1 : w2.cell? ⟨w.heap.size, 1, none⟩ = some (.slice A n c) := (cell_of_row _ _ 1 _ _ _ HF2.out).trans rfl
    go_wp2_with fail
    clear y1
    go_loopw [3, 21] (fun s i wr => ∃ (j : Nat) (z : ByteArray), i = .int .i64 (j : Int) ∧ j ≤ n ∧ s = .string z ∧ z = s1 ++ catB (P.take j) ∧ Below w2.heap.size w2 wr) (fun _ i _ => n - (intOf i).toNat)
    case atStart => exact ⟨0, s1, rfl, Nat.zero_le _, rfl, by rw [List.take_zero]; exact (ba_nil2C _).symm, Below.refl _ _⟩
    case round =>
      obtain ⟨j, z, rfl, hj, rfl, hz, hb⟩ := hrel
      have HZ := Lib.hid hz
      have HBR := Lib.hid (HB2.out.trans (hb.mono HB2.out.size))
      have HFR := Lib.hid (blk_below HF2.out hb)
      have HBW := Lib.hid hb
      clear hb hz
      by_cases hlt : j < n
      · have hd1 : decide ((j : Int) < (n : Int)) = true := decide_eq_true (by omega)
        have hl : j < P.length := by rw [LL.out]; exact hlt
        obtain ⟨b, off, _, rfl, hbb, hcc⟩ := (H.out.below HBR.out).at hlt
        clear hcc
        obtain ⟨x, hx⟩ : ∃ x, P[j] = x := ⟨_, rfl⟩
        have HX := Lib.hid (show P[j]? = some x by rw [List.getElem?_eq_getElem hl, hx])
        have hxs : x.size = 32 := by rw [← hx]; exact HKP.out _ (List.getElem_mem hl)
        have hzs : z.size ≤ 21 + 32 * j := by
          rw [HZ.out, ByteArray.size_append, catB_size (fun s hs => HKP.out s (List.mem_of_mem_take hs)), List.length_take]
          have := HS1.out
          have := Nat.min_le_left j P.length
          omega
        have HTK := Lib.hid (show z ++ x = s1 ++ catB (P.take (j + 1)) by rw [List.take_succ_eq_append_getElem hl, catB_snoc, hx, HZ.out]; exact ba_assocC _ _ _)
        obtain ⟨y, hy⟩ : ∃ y, y = z ++ x := ⟨_, rfl⟩
        have qz : ∀ W, (Op.stringOp .add z x).run Tryd.prog W = .ok (.string y) W := fun W => by rw [hy]; exact run_string_add_sum W _ _ (by omega)
        have HY := Lib.hid (show y = s1 ++ catB (P.take (j + 1)) by rw [hy]; exact HTK.out)
        have c0 : wr.cell? ⟨b, off + j, none⟩ = some (.string x) := by have q := (H.out.below HBR.out).cellAt HX.out hlt 0 _ rfl; simpa using q
        have hi0 : (0 : Int) ≤ (j : Int) := by omega
        have hi3 : (j : Int) < (n : Int) := by omega
        have hw1 : IntKind.i64.wrap ((j : Int) + 1) = (j : Int) + 1 := IntWalk.i64_in _ (by omega)
        clear hx hl hxs hzs hy
        go_wp2_with fail
        go_roundw
        case rel => exact ⟨j + 1, y, by go_num, by omega, rfl, HY.out, HBW.out⟩
        case measure => simp [intOf] <;> omega
      · have hd1 : decide ((j : Int) < (n : Int)) = false := decide_eq_false (by omega)
        have e : z = s2 := by rw [HZ.out, List.take_of_length_le (by rw [LL.out]; omega), ← HCB.out]; exact HT2.out.symm
        subst e
        go_upto_region 9 with (fail)
        have y0 : wr.cell? ⟨w.heap.size, 2, none⟩ = some (.string g) := (cell_of_row _ _ 2 _ _ _ HFR.out).trans rfl
        have r0 := fun d os => cell_regrown y0 d os
        have y1 : wr.cell? ⟨w.heap.size, 3, none⟩ = some (.string t) := (cell_of_row _ _ 3 _ _ _ HFR.out).trans rfl
        have r1 := fun d os => cell_regrown y1 d os
        clear y0 y1
        refine wp_region_quiet_below (by kernel_rfl) (by kernel_rfl) ?_
        repeat (any_goals (first | go_big_quiet_step ((first | (go_at_call 70; exact Calls.regrown_of (P2.out _)))) | quiet_step ((first | (go_at_call 70; exact Calls.regrown_of (P2.out _))))))
        refine wpQuiet_nil ?_
        intro w9 hv1
        have hb1 := below_anyY hv1
        clear hv1 r0 r1
        have HF9 := Lib.hid (blk_below HFR.out hb1)
        have HB9 := Lib.hid (HBR.out.trans (hb1.mono HBR.out.size))
        clear hb1 HFR HBR
        go_wp2_with fail
        go_ret
        refine ⟨?_, HB9.out⟩
        rw [HE.out]
        first | done | simp
end
end Go.Proofs.YtiflieaemgamkaaDoor

namespace Go.Proofs.YtiflieaemgamkaaDoor
open Go.RowKit Vi

/-- so many sums are read, one behind the other -/
def fxs (S : ByteArray) (q : Nat) (e : Int) : Nat → List ByteArray × Nat × Int
  | 0 => ([], q, e)
  | j + 1 => ((fxs S q e j).1 ++ [(Rd.fix S (fxs S q e j).2.1 (fxs S q e j).2.2 32).1], (Rd.fix S (fxs S q e j).2.1 (fxs S q e j).2.2 32).2.1, (Rd.fix S (fxs S q e j).2.1 (fxs S q e j).2.2 32).2.2)
theorem fxs_le {S : ByteArray} {q : Nat} {e : Int} (hq : q ≤ S.size) : ∀ j, (fxs S q e j).2.1 ≤ S.size
  | 0 => hq
  | j + 1 => Rd.fix_le _ _ _ _ (fxs_le hq j)
theorem fxs_len {S : ByteArray} {q : Nat} {e : Int} : ∀ j, (fxs S q e j).1.length = j
  | 0 => rfl
  | j + 1 => by rw [fxs, List.length_append, fxs_len j]; rfl
theorem fxs_succ {S : ByteArray} {q q' q3 : Nat} {e e' e3 : Int} {j : Nat} {acc : List ByteArray} {x : ByteArray} (h : fxs S q e j = (acc, q', e')) (hx : Rd.fix S q' e' 32 = (x, q3, e3)) : fxs S q e (j + 1) = (acc ++ [x], q3, e3) := by rw [fxs, h]; dsimp only; rw [hx]
/-- what the pieces of a text read as, behind its first letter -/
def Gs (S : ByteArray) (q0 : Nat) (e0 a : Int) (ps : List ByteArray) (g t : ByteArray) (er : Int) : Prop := ∃ (q1 : Nat) (e1 : Int) (M q2 : Nat) (e2 : Int) (q3 : Nat) (e3 : Int) (q4 : Nat) (e4 : Int) (q5 : Nat), Rd.num S q0 e0 4294967295 = (a, q1, e1) ∧ Rd.num S q1 e1 2 = ((M : Int), q2, e2) ∧ M ≤ 2 ∧ fxs S q2 e2 M = (ps, q3, e3) ∧ Rd.fix S q3 e3 32 = (g, q4, e4) ∧ Rd.text S q4 e4 40 = (t, q5, er)
theorem num_two (S : ByteArray) (q : Nat) (e : Int) : ∃ (M : Nat) (q2 : Nat) (e2 : Int), Rd.num S q e 2 = ((M : Int), q2, e2) ∧ M ≤ 2 := by
  unfold Rd.num
  split
  · exact ⟨0, _, _, rfl, by omega⟩
  · split
    · exact ⟨0, _, _, rfl, by omega⟩
    · split
      · exact ⟨0, _, _, rfl, by omega⟩
      · next h => exact ⟨gn (S.data.toList.drop q), _, _, rfl, by omega⟩
theorem gs_ex (S : ByteArray) (q0 : Nat) (e0 : Int) : ∃ a ps g t er, Gs S q0 e0 a ps g t er := by
  obtain ⟨a, q1, e1, h1⟩ : ∃ a q1 e1, Rd.num S q0 e0 4294967295 = (a, q1, e1) := ⟨_, _, _, rfl⟩
  obtain ⟨M, q2, e2, h2, hM⟩ := num_two S q1 e1
  obtain ⟨ps, q3, e3, h3⟩ : ∃ ps q3 e3, fxs S q2 e2 M = (ps, q3, e3) := ⟨_, _, _, rfl⟩
  obtain ⟨g, q4, e4, h4⟩ : ∃ g q4 e4, Rd.fix S q3 e3 32 = (g, q4, e4) := ⟨_, _, _, rfl⟩
  obtain ⟨t, q5, er, h5⟩ : ∃ t q5 er, Rd.text S q4 e4 40 = (t, q5, er) := ⟨_, _, _, rfl⟩
  exact ⟨a, ps, g, t, er, q1, e1, M, q2, e2, q3, e3, q4, e4, q5, h1, h2, hM, h3, h4, h5⟩
structure S2C (A B : World → Prop) (k1 k2 : Nat) (L : Array Bool) (W : World) : Prop where
  x : L.getD k1 false = false → A W
  y : L.getD k2 false = false → B W
theorem S2C.set {A B : World → Prop} {k1 k2 j : Nat} (h0 : j ≠ k1) (h1 : j ≠ k2) (L : Array Bool) (w : World) : S2C A B k1 k2 (L.setIfInBounds j true) w ↔ S2C A B k1 k2 L w :=
  ⟨fun h => ⟨fun q => h.x (by rw [getF_set L j k1 h0]; exact q), fun q => h.y (by rw [getF_set L j k2 h1]; exact q)⟩, fun h => ⟨fun q => h.x (by rw [getF_set L j k1 h0] at q; exact q), fun q => h.y (by rw [getF_set L j k2 h1] at q; exact q)⟩⟩
theorem S2C.xOf {md : Region.Mode} {ops : Array Oper} {A B : World → Prop} {k1 k2 j : Nat} {w : World} (h : SI md ops (S2C A B k1 k2) j w) (f : Nat) (hw : waits md ops f k1 j = true) : A w := by
  obtain ⟨L, hs, hi, hS⟩ := h
  exact hS.x (shut_of hs hi f k1 hw)
theorem OwX.butC {α : Type} {f : α → List Value} {s : Nat} {T : TypeId} {w w' : World} {B n : Nat} {v : Value} {l : List α} (h : OwX f s T w n v l) (hb : But B w w') (hn : B < n) : OwX f s T w' n v l := by
  rcases h with ⟨h1, h | ⟨g, cap, cur, h2, h3, h4, h5⟩⟩
  · exact ⟨h1, .inl h⟩
  · refine ⟨h1, .inr ⟨g, cap, cur, h2, h3, ?_, h5⟩⟩
    rw [hb.block g (by
      rcases Nat.lt_or_ge g w.heap.size with q | q
      · exact q
      · rw [Array.getElem?_eq_none q] at h4
        cases h4) (by simp; omega)]
    exact h4
theorem Sc.butC {w w' : World} {B g : Nat} {made : Bool} {S : ByteArray} {q : Nat} {er : Int} (h : Sc w B made S q er) (k : But g w w') (hne : B ≠ g) : Sc w' B made S q er := h.kept (k.block B h.lt (by simpa using hne))
theorem RdX.butR {α : Type} {f : α → List Value} {s : Nat} {w w' : World} {B n : Nat} {A : Option Addr} {l : List α} (h : RdX f s w A n l) (hb : But B w w') (hn : ∀ b o, A = some ⟨b, o, none⟩ → b ≠ B) : RdX f s w' A n l :=
  ⟨h.1, fun hp => by
    obtain ⟨b, off, e, hlt, hc⟩ := h.2 hp
    exact ⟨b, off, e, Nat.lt_of_lt_of_le hlt hb.size, fun k x j u hx hu => by rw [World.cell?_of_block (hb.block b hlt (by simpa using hn b off e))]; exact hc k x j u hx hu⟩⟩
theorem RdX.othR {α : Type} {f : α → List Value} {s : Nat} {w w' : World} {g n : Nat} {A : Option Addr} {l : List α} (h : RdX f s w A n l) (ho : ∀ k, k ≠ g → w'.heap[k]? = w.heap[k]?) (hz : w'.heap.size = w.heap.size) (hn : ∀ b o, A = some ⟨b, o, none⟩ → b ≠ g) : RdX f s w' A n l :=
  ⟨h.1, fun hp => by
    obtain ⟨b, off, e, hlt, hc⟩ := h.2 hp
    exact ⟨b, off, e, by omega, fun k x j u hx hu => by rw [World.cell?_of_block (ho b (hn b off e))]; exact hc k x j u hx hu⟩⟩
theorem info_cmC (a v g t : Value) : (Tryd.prog.info? 41).map (·.size) = some (#[a, v, g, t] : Array Value).size := by kernel_rfl
theorem one_cmC (a : Int) (A : Option Addr) (n c : Nat) (g t : ByteArray) : (#[.int .i64 a, .slice A n c, .string g, .string t] : Array Value).all (·.oneCell') = true := by simp [Value.oneCell']
set_option linter.unusedSimpArgs false in
set_option maxRecDepth 100000 in
set_option maxHeartbeats 8000000 in
theorem guess_any (S : ByteArray) (x0 : ByteArray) (q0 : Nat) (e0 a : Int) (ps : List ByteArray) (g t : ByteArray) (er : Int) (w : World) (hS : S.size ≤ 1000000) (h0 : Rd.fix S 0 0 1 = (x0, q0, e0)) (hG : Gs S q0 e0 a ps g t er) :
    Calls Tryd.prog 36 #[.string S] w fun e w' => ∃ A n c, e = .returned (.agg #[.int .i64 a, .slice A n c, .string g, .string t]) ∧ RdX stC 1 w' A n ps ∧ n ≤ c ∧ (∀ b o, A = some ⟨b, o, none⟩ → w.heap.size < b) ∧ Below w.heap.size w w' := by
  obtain ⟨q1, e1, M, q2, e2, q3, e3, q4, e4, q5, h1, h2, hM, h3, h4, h5⟩ := hG
  have l0 : q0 ≤ S.size := by have y := Rd.fix_le S 0 0 1 (Nat.zero_le _); rw [h0] at y; exact y
  have l1 : q1 ≤ S.size := by have y := Rd.num_le S q0 e0 4294967295 l0; rw [h1] at y; exact y
  have l2 : q2 ≤ S.size := by have y := Rd.num_le S q1 e1 2 l1; rw [h2] at y; exact y
  have l3 : q3 ≤ S.size := by have y := fxs_le (e := e2) l2 M; rw [h3] at y; exact y
  have l4 : q4 ≤ S.size := by have y := Rd.fix_le S q3 e3 32 l3; rw [h4] at y; exact y
  have HX0 := Lib.hid (fun (W : World) (B : Nat) (s : Sc W B true S 0 0) => fixU W B S 0 0 1 hS (Nat.zero_le _) s)
  rw [h0] at HX0
  have HN1 := Lib.hid (fun (W : World) (B : Nat) (s : Sc W B true S q0 e0) => numU W B S q0 e0 4294967295 hS l0 s (by decide))
  rw [h1] at HN1
  have HN2 := Lib.hid (fun (W : World) (B : Nat) (s : Sc W B true S q1 e1) => numU W B S q1 e1 2 hS l1 s (by decide))
  rw [h2] at HN2
  have HX4 := Lib.hid (fun (W : World) (B : Nat) (s : Sc W B true S q3 e3) => fixU W B S q3 e3 32 hS l3 s)
  rw [h4] at HX4
  have HT5 := Lib.hid (fun (W : World) (B : Nat) (s : Sc W B true S q4 e4) => textU W B S q4 e4 40 hS l4 s (by decide))
  rw [h5] at HT5
  have H3 := Lib.hid h3
  have HL2 := Lib.hid l2
  have HSS := Lib.hid hS
  clear h0 h1 h2 h3 h4 h5 l0 l1 l2 l3 l4 hS
  have HF := Lib.hid (blk_new w (.cells #[.int .i64 0, .slice none 0 0, .string ⟨#[]⟩, .string ⟨#[]⟩] 41 (0, 0)))
  have HB := Lib.hid ((Below.refl w.heap.size w).alloc (Nat.le_refl _) (.cells #[.int .i64 0, .slice none 0 0, .string ⟨#[]⟩, .string ⟨#[]⟩] 41 (0, 0)))
  obtain ⟨v, hv⟩ : ∃ v, v = w.alloc (.cells #[.int .i64 0, .slice none 0 0, .string ⟨#[]⟩, .string ⟨#[]⟩] 41 (0, 0)) := ⟨_, rfl⟩
  have HV := Lib.hid hv
  rw [← hv] at HF HB
  clear hv
  go_enter Tryd.func36, Tryd.ntmps36
  go_upto_region 1 with (fail)
  rw [← HV.out]
  clear HV
  go_wp2_with fail
  refine (new_any S v).mono ?_
  rintro e w1 ⟨rfl, hs, hb⟩
  have hrB : w.heap.size < v.heap.size := lt_of_block HF.out
  have HF := Lib.hid (blk_below HF.out hb)
  have HB := Lib.hid (HB.out.trans (hb.mono HB.out.size))
  have HS := Lib.hid hs
  clear hs hb
  generalize v.heap.size = B at *
  go_wp2_with fail
  refine (HX0.out w1 B HS.out).mono ?_
  rintro e w2 ⟨rfl, hs, hk⟩
  have HF := Lib.hid (blk_but HF.out hk (by omega))
  have HB := Lib.hid (But.below HB.out hk (by omega) HB.out.size)
  have HS := Lib.hid hs
  clear hs hk HX0
  go_wp2_with fail
  refine (HN1.out w2 B HS.out).mono ?_
  rintro e w3 ⟨rfl, hs, hk⟩
  have HF := Lib.hid (blk_but HF.out hk (by omega))
  have HB := Lib.hid (But.below HB.out hk (by omega) HB.out.size)
  have HS := Lib.hid hs
  clear hs hk HN1
  have hBb : B < w3.heap.size := HS.out.lt
  have HF := Lib.hid (blk_alloc HF.out (.cells #[.int .i64 a, .slice none 0 0, .string ⟨#[]⟩, .string ⟨#[]⟩] 41 (0, 0)))
  have H4 := Lib.hid (blk_new w3 (.cells #[.int .i64 a, .slice none 0 0, .string ⟨#[]⟩, .string ⟨#[]⟩] 41 (0, 0)))
  have HB := Lib.hid (HB.out.alloc HB.out.size (.cells #[.int .i64 a, .slice none 0 0, .string ⟨#[]⟩, .string ⟨#[]⟩] 41 (0, 0)))
  have HS := Lib.hid (HS.out.alloc (.cells #[.int .i64 a, .slice none 0 0, .string ⟨#[]⟩, .string ⟨#[]⟩] 41 (0, 0)))
  go_wp2_with fail
  refine (HN2.out _ B HS.out).mono ?_
  rintro e w4 ⟨rfl, hs, hk⟩
  have HF := Lib.hid (blk_but HF.out hk (by omega))
  have HB := Lib.hid (But.below HB.out hk (by omega) HB.out.size)
  have H4 := Lib.hid (blk_but H4.out hk (by omega))
  have HS := Lib.hid hs
  clear hs hk HN2
  generalize w3.heap.size = b4 at *
  have hsz : b4 + 1 ≤ w4.heap.size := lt_of_block H4.out
  go_wp2_with fail
  go_loopw [14] (fun i wr => ∃ (j : Nat) (v : Value) (acc : List ByteArray) (q : Nat) (e : Int), i = .int .i64 (j : Int) ∧ j ≤ M ∧ fxs S q2 e2 j = (acc, q, e) ∧ wr.heap[b4]? = some (.cells #[.int .i64 a, v, .string ⟨#[]⟩, .string ⟨#[]⟩] 41 (0, 0)) ∧ OwX stC 1 9 wr (b4 + 1) v acc ∧ Sc wr B true S q e ∧ wr.heap[w.heap.size]? = some (.cells #[.int .i64 0, .slice none 0 0, .string ⟨#[]⟩, .string ⟨#[]⟩] 41 (0, 0)) ∧ Below w.heap.size w wr) (fun i _ => M - (intOf i).toNat)
  case atStart => exact ⟨0, _, [], q2, e2, rfl, Nat.zero_le _, rfl, H4.out, OwX.nil _, HS.out, HF.out, HB.out⟩
  case round =>
    obtain ⟨j, v, acc, q, e, rfl, hj, hfx, h4, ho, hs, hf, hb⟩ := hrel
    clear HF HB H4 HS hsz
    have HF := Lib.hid hf
    have HB := Lib.hid hb
    have H4 := Lib.hid h4
    have HS := Lib.hid hs
    have HO := Lib.hid ho
    have HFX := Lib.hid hfx
    clear hf hb h4 hs ho hfx
    by_cases hlt : j < M
    · have hd1 : decide ((j : Int) < (M : Int)) = true := decide_eq_true (by omega)
      have hw1 : IntKind.i64.wrap ((j : Int) + 1) = (j : Int) + 1 := IntWalk.i64_in _ (by omega)
      obtain ⟨x, q', e', hx⟩ : ∃ x q' e', Rd.fix S q e 32 = (x, q', e') := ⟨_, _, _, rfl⟩
      have hql : q ≤ S.size := by have y := fxs_le (e := e2) HL2.out j; rw [HFX.out] at y; exact y
      have HXL := Lib.hid (fun (W : World) (s : Sc W B true S q e) => fixU W B S q e 32 HSS.out hql s)
      rw [hx] at HXL
      have HFX2 := Lib.hid (fxs_succ HFX.out hx)
      have hal : acc.length + 1 ≤ 1000000 := by have y := fxs_len (S := S) (q := q2) (e := e2) j; rw [HFX.out] at y; have z : acc.length = j := y; omega
      clear hx hql
      go_upto_region 6 with (fail)
      have hbd : Below wr.heap.size wr wr.drew := (Below.refl _ _).drew
      have HF := Lib.hid (blk_below HF.out hbd)
      have H4 := Lib.hid (blk_below H4.out hbd)
      have HB := Lib.hid HB.out.drew
      have HO := Lib.hid HO.out.drew
      have HS := Lib.hid HS.out.drew
      clear hbd
      refine wp_region_L_drew (S := S2C (fun W => W.heap[b4]? = some (.cells #[.int .i64 a, v, .string ⟨#[]⟩, .string ⟨#[]⟩] 41 (0, 0))) (fun _ => True) 7 7) (by kernel_rfl) ⟨fun _ => H4.out, fun _ => trivial⟩ (fun hS hC => ?_)
      generalize wr.drew = v0 at *
      refine wpAnyL_take (i := 0) (oi := { dst := some 16, op := .fieldAddr 41 (.tmp 4) 1, type := _, pos := _, after := _, guard := none }) (v := ?_) rfl (by kernel_rfl) (by kernel_rfl) (by kernel_rfl) (fun _ _ _ h => h) (S2C.set (by decide) (by decide)) hC (Or.inl ⟨by rfl, ?_⟩) ⟨fun _ => H4.out, fun _ => trivial⟩ (fun hC hS => ?_)
      rotate_left
      · intro W9 hSw; skip; go_simp; try (with_reducible rfl)
      try simp only [Act.put, List.setIfInBounds_toArray, List.set_cons_zero, List.set_cons_succ]
      refine wpAnyL_take (i := 1) (oi := { dst := some 17, op := .load 22 (.tmp 16), type := _, pos := _, after := _, guard := none }) (v := ?_) rfl (by kernel_rfl) (by kernel_rfl) (by kernel_rfl) (fun _ _ _ h => h) (S2C.set (by decide) (by decide)) hC (Or.inl ⟨by rfl, ?_⟩) ⟨fun _ => H4.out, fun _ => trivial⟩ (fun hC hS => ?_)
      rotate_left
      · intro W9 hSw; have q9 := S2C.xOf hSw 20 (by kernel_rfl); have q0 := (cell_of_row _ _ 1 _ _ _ q9).trans rfl; go_simp; try (with_reducible rfl)
      try simp only [Act.put, List.setIfInBounds_toArray, List.set_cons_zero, List.set_cons_succ]
      refine wpAnyL_take (i := 2) (oi := { dst := some 18, op := .move (.tmp 3), type := _, pos := _, after := _, guard := none }) (v := ?_) rfl (by kernel_rfl) (by kernel_rfl) (by kernel_rfl) (fun _ _ _ h => h) (S2C.set (by decide) (by decide)) hC (Or.inl ⟨by rfl, ?_⟩) ⟨fun _ => H4.out, fun _ => trivial⟩ (fun hC hS => ?_)
      rotate_left
      · intro W9 hSw; skip; go_simp; try (with_reducible rfl)
      try simp only [Act.put, List.setIfInBounds_toArray, List.set_cons_zero, List.set_cons_succ]
      refine wpAnyL_ready (rs := [3]) (by kernel_rfl) (by simp) hC ?_
      refine AllReadyL.cons (o := { dst := some 19, op := .call { callee := .value (.func 55), args := #[.tmp 18, .const (.int Go.IntKind.i64 32)], argTypes := #[109, 3] }, type := _, pos := _, after := _, guard := none }) rfl (fun K9 hK => ?_) ?_
      · skip
        go_simp
        refine (HXL.out v0 HS.out).mono ?_
        rintro e v1 ⟨rfl, hs, hk⟩
        have HF := Lib.hid (blk_but HF.out hk (by omega))
        have H4 := Lib.hid (blk_but H4.out hk (by omega))
        have HB := Lib.hid (But.below HB.out hk (by omega) HB.out.size)
        have HO := Lib.hid (HO.out.butC hk (by omega))
        have HS := Lib.hid hs
        clear hs hk HXL
        refine hK _ _ ⟨fun _ => H4.out, fun _ => trivial⟩ (fun hC => ?_)
        clear hK K9
        try simp only [Act.put, List.setIfInBounds_toArray, List.set_cons_zero, List.set_cons_succ]
        refine wpAnyL_ready (rs := [4]) (by kernel_rfl) (by simp) hC ?_
        refine AllReadyL.cons (o := { dst := some 20, op := .buildSlice 22 1 #[(0, .tmp 19)], type := _, pos := _, after := _, guard := none }) rfl (fun K9 hK => ?_) ?_
        · skip
          go_simp
          have HF := Lib.hid (blk_alloc HF.out (.cells #[.string x] 9 (0, 0)))
          have H4 := Lib.hid (blk_alloc H4.out (.cells #[.string x] 9 (0, 0)))
          have HN := Lib.hid (blk_new v1 (.cells #[.string x] 9 (0, 0)))
          have HB := Lib.hid (HB.out.alloc HB.out.size (.cells #[.string x] 9 (0, 0)))
          have HO := Lib.hid (HO.out.alloc (.cells #[.string x] 9 (0, 0)))
          have HS := Lib.hid (HS.out.alloc (.cells #[.string x] 9 (0, 0)))
          refine hK _ _ ⟨fun _ => H4.out, fun _ => trivial⟩ (fun hC => ?_)
          clear hK K9
          try simp only [Act.put, List.setIfInBounds_toArray, List.set_cons_zero, List.set_cons_succ]
          refine wpAnyL_ready (rs := [5]) (by kernel_rfl) (by simp) hC ?_
          refine AllReadyL.cons (o := { dst := some 21, op := .call { callee := .builtin .append, args := #[.tmp 17, .tmp 20], argTypes := #[22, 22] }, type := _, pos := _, after := _, guard := none }) rfl (fun K9 hK => ?_) ?_
          · skip
            refine step_appPo rfl (.tmp 17) (.tmp 20) 22 9 _ 16 rfl Tryd.underlying22 info_stA rfl (by omega) (by omega) stC_len stC_one (b4 + 1) (v1.alloc (.cells #[.string x] 9 (0, 0))) (Below.refl _ _) (lt_of_block H4.out) v acc rfl HO.out v1.heap.size 1 x #[.string x] 9 (0, 0) rfl HN.out rfl hal ?_
            intro v5 w5 ho5 hb5 _ _
            have hs5 : b4 + 1 ≤ (v1.alloc (.cells #[.string x] 9 (0, 0))).heap.size := lt_of_block H4.out
            have HF := Lib.hid ((hb5.out.block w.heap.size (by omega)).trans HF.out)
            have H4 := Lib.hid ((hb5.out.block b4 (by omega)).trans H4.out)
            have HB := Lib.hid (HB.out.trans (hb5.out.mono (by omega)))
            have HS := Lib.hid (HS.out.kept (hb5.out.block B (by omega)))
            clear HN HO hb5 hs5
            refine hK _ _ ⟨fun _ => H4.out, fun _ => trivial⟩ (fun hC => ?_)
            clear hK K9
            try simp only [Act.put, List.setIfInBounds_toArray, List.set_cons_zero, List.set_cons_succ]
            refine wpAnyL_take (i := 6) (oi := { dst := some 22, op := .fieldAddr 41 (.tmp 4) 1, type := _, pos := _, after := _, guard := none }) (v := ?_) rfl (by kernel_rfl) (by kernel_rfl) (by kernel_rfl) (fun _ _ _ h => h) (S2C.set (by decide) (by decide)) hC (Or.inl ⟨by rfl, ?_⟩) ⟨fun _ => H4.out, fun _ => trivial⟩ (fun hC hS => ?_)
            rotate_left
            · intro W9 hSw; skip; go_simp; try (with_reducible rfl)
            try simp only [Act.put, List.setIfInBounds_toArray, List.set_cons_zero, List.set_cons_succ]
            refine wpAnyL_ready (rs := [7]) (by kernel_rfl) (by simp) hC ?_
            refine AllReadyL.cons (o := { dst := none, op := .store 22 (.tmp 22) (.tmp 21), type := _, pos := _, after := _, guard := none }) rfl (fun K9 hK => ?_) ?_
            · skip
              obtain ⟨A5, c5, hv5, _, _, _⟩ := ho5.out.rd stC_len
              rw [List.length_append, List.length_singleton] at hv5
              subst hv5
              have y0 : w5.cell? ⟨b4, 1, none⟩ = some v := (cell_of_row _ _ 1 _ _ _ H4.out).trans rfl
              have z0 : w5.frozen? ⟨b4, 1, none⟩ = false := frozen_of_row _ _ _ _ _ H4.out
              go_simp
              clear y0 z0
              refine hK _ _ ⟨fun q => absurd q (by decide), fun _ => trivial⟩ (fun hC => ?_)
              clear hK K9
              try simp only [Act.put, List.setIfInBounds_toArray, List.set_cons_zero, List.set_cons_succ]
              refine wpAnyL_done (by kernel_rfl) ?_ _
              clear hS hC
              have HK := Lib.hid ((But.refl b4 w5).set 1 (.slice A5 (acc.length + 1) c5))
              have H5 : Hid ((w5.setCell ⟨b4, 1, none⟩ (.slice A5 (acc.length + 1) c5)).heap[b4]? = some (.cells #[.int .i64 a, (.slice A5 (acc.length + 1) c5), .string ⟨#[]⟩, .string ⟨#[]⟩] 41 (0, 0))) := Lib.hid (by have y := heap_setCell_at (i := 1) (u := (.slice A5 (acc.length + 1) c5)) H4.out; exact y)
              have HF5 := Lib.hid (blk_but HF.out HK.out (by omega))
              have HB5 := Lib.hid (But.below HB.out HK.out (by omega) HB.out.size)
              have HO5 := Lib.hid (ho5.out.butC HK.out (by omega))
              have HS5 := Lib.hid (HS.out.butC HK.out (by omega))
              clear HF HB H4 HS HK ho5
              go_wp2_with fail
              go_roundw
              case rel => exact ⟨j + 1, _, acc ++ [x], q', e', by go_num, by omega, HFX2.out, H5.out, HO5.out, HS5.out, HF5.out, HB5.out⟩
              case measure => simp [intOf] <;> omega
            exact AllReadyL.nil
          exact AllReadyL.nil
        exact AllReadyL.nil
      exact AllReadyL.nil
    · have hd1 : decide ((j : Int) < (M : Int)) = false := decide_eq_false (by omega)
      obtain rfl : j = M := by omega
      have hq := HFX.out.symm.trans H3.out
      simp only [Prod.mk.injEq] at hq
      obtain ⟨rfl, rfl, rfl⟩ := hq
      clear HFX
      go_wp2_with fail
      refine (HX4.out wr B HS.out).mono ?_
      rintro e w5 ⟨rfl, hs, hk⟩
      have HF := Lib.hid (blk_but HF.out hk (by omega))
      have HB := Lib.hid (But.below HB.out hk (by omega) HB.out.size)
      have H4 := Lib.hid (blk_but H4.out hk (by omega))
      have HO := Lib.hid (HO.out.butC hk (by omega))
      have HS := Lib.hid hs
      clear hs hk HX4
      go_wp2_with fail
      refine (HT5.out w5 B HS.out).mono ?_
      rintro e w6 ⟨rfl, hs, hk⟩
      have HF := Lib.hid (blk_but HF.out hk (by omega))
      have HB := Lib.hid (But.below HB.out hk (by omega) HB.out.size)
      have H4 := Lib.hid (blk_but H4.out hk (by omega))
      have HO := Lib.hid (HO.out.butC hk (by omega))
      clear hs hk HT5 HS
      have hne4 : ∀ b, v.ownBlock = some b → b4 < b := fun b hb => (World.ownsRow.lt HO.out b hb).1
      obtain ⟨A, c, rfl, hrd, hnc, _⟩ := HO.out.rd stC_len
      have hA4 : ∀ b o, A = some ⟨b, o, none⟩ → b4 < b := fun b o e => hne4 b (by subst e; rfl)
      have hnb : ∀ b o, A = some ⟨b, o, none⟩ → b ≠ b4 := fun b o e => by have := hA4 b o e; omega
      have hnr : ∀ b o, A = some ⟨b, o, none⟩ → b ≠ w.heap.size := fun b o e => by have := hA4 b o e; omega
      have hAr : ∀ b o, A = some ⟨b, o, none⟩ → w.heap.size < b := fun b o e => by have := hA4 b o e; omega
      clear hne4 hA4
      have HRD := Lib.hid hrd
      clear hrd HO
      have y2 : w6.cell? ⟨b4, 2, none⟩ = some (.string ⟨#[]⟩) := (cell_of_row _ _ 2 _ _ _ H4.out).trans rfl
      have y3 : w6.cell? ⟨b4, 3, none⟩ = some (.string ⟨#[]⟩) := (cell_of_row _ _ 3 _ _ _ H4.out).trans rfl
      have z2 : w6.frozen? ⟨b4, 2, none⟩ = false := frozen_of_row _ _ _ _ _ H4.out
      have z3 : w6.frozen? ⟨b4, 3, none⟩ = false := frozen_of_row _ _ _ _ _ H4.out
      go_upto_region 9 with (fail)
      clear y2 y3 z2 z3
      have HK := Lib.hid (((But.refl b4 w6).set 2 (.string g)).set 3 (.string t))
      have H5 : Hid (((w6.setCell ⟨b4, 2, none⟩ (.string g)).setCell ⟨b4, 3, none⟩ (.string t)).heap[b4]? = some (.cells #[.int .i64 a, .slice A acc.length c, .string g, .string t] 41 (0, 0))) := Lib.hid (by have y := heap_setCell_at (i := 3) (u := .string t) (heap_setCell_at (i := 2) (u := .string g) H4.out); exact y)
      have HF := Lib.hid (blk_but HF.out HK.out (by omega))
      have HB := Lib.hid (But.below HB.out HK.out (by omega) HB.out.size)
      have HRD := Lib.hid (show RdX stC 1 ((w6.setCell ⟨b4, 2, none⟩ (.string g)).setCell ⟨b4, 3, none⟩ (.string t)) A acc.length acc from HRD.out.butR HK.out hnb)
      clear HK H4
      generalize (w6.setCell ⟨b4, 2, none⟩ (.string g)).setCell ⟨b4, 3, none⟩ (.string t) = w7 at *
      have y0 : w7.cell? ⟨b4, 0, none⟩ = some (.int .i64 a) := (cell_of_row _ _ 0 _ _ _ H5.out).trans rfl
      have y1 : w7.cell? ⟨b4, 1, none⟩ = some (.slice A acc.length c) := (cell_of_row _ _ 1 _ _ _ H5.out).trans rfl
      have y2 : w7.cell? ⟨b4, 2, none⟩ = some (.string g) := (cell_of_row _ _ 2 _ _ _ H5.out).trans rfl
      have y3 : w7.cell? ⟨b4, 3, none⟩ = some (.string t) := (cell_of_row _ _ 3 _ _ _ H5.out).trans rfl
      go_wp2_with (first
        | refine wpList_store_rowY rfl 41 (.tmp 2) (.tmp 30) rfl w.heap.size #[.int .i64 a, .slice A acc.length c, .string g, .string t] rfl rfl 41 _ HF.out (info_cmC _ _ _ _) rfl (one_cmC _ _ _ _ _ _) w.heap.size w HB.out (Nat.le_refl _) ?_)
      intro W8 hbk hoth hbel hsz8
      have HRD := Lib.hid (show RdX stC 1 W8 A acc.length acc from HRD.out.othR hoth.out hsz8.out hnr)
      go_wp2_with fail
      refine bodyPost_ret (results_cY rfl _ _ w.heap.size _ rfl (run_loadVar_row _ w.heap.size 41 41 _ (0, 0) _ hbk.out Tryd.underlying41 rfl (info_cmC _ _ _ _))) rfl ?_
      exact ⟨A, acc.length, c, rfl, HRD.out, hnc, hAr, hbel.out⟩
end Go.Proofs.YtiflieaemgamkaaDoor

namespace Go.Proofs.YtiflieaemgamkaaDoor
open Go.RowKit Vi

theorem fix32C {S x : ByteArray} {q : Nat} {tl : List UInt8} (h : S.data.toList.drop q = x.data.toList ++ tl) (hx : x.size = 32) : Rd.fix S q 0 32 = (x, q + 32, 0) ∧ S.data.toList.drop (q + 32) = tl := by
  have hl := congrArg List.length h
  simp only [List.length_drop, List.length_append, ba_lenC] at hl
  have y := fix_isC S q x tl (by omega) h
  rw [hx] at y
  exact ⟨y, by rw [← List.drop_drop, h, ← hx, ← ba_lenC, List.drop_left]⟩
theorem num_isD {S : ByteArray} {q m : Nat} {n : Int} {tl : List UInt8} (h : S.data.toList.drop q = put m ++ tl) (hm : m < 18446744073709551616) (hn : (m : Int) ≤ n) : Rd.num S q 0 n = ((m : Int), q + (put m).length, 0) ∧ S.data.toList.drop (q + (put m).length) = tl :=
  ⟨num_isC S q m n tl h hm hn, by rw [← List.drop_drop, h, List.drop_left]⟩
theorem fxs_is {S : ByteArray} {q : Nat} {tl : List UInt8} : ∀ (P : List ByteArray), P.length ≤ 2 → (∀ s ∈ P, s.size = 32) → S.data.toList.drop q = (catB P).data.toList ++ tl → ∃ q3, fxs S q 0 P.length = (P, q3, 0) ∧ S.data.toList.drop q3 = tl
  | [], _, _, h => ⟨q, rfl, by rw [h]; rfl⟩
  | [p], _, h32, h => by
    rw [catB_one] at h
    obtain ⟨h1, h2⟩ := fix32C h (h32 p (by simp))
    exact ⟨q + 32, fxs_succ (j := 0) rfl h1, h2⟩
  | [p, r], _, h32, h => by
    rw [catB_two] at h
    have h' : S.data.toList.drop q = p.data.toList ++ (r.data.toList ++ tl) := by rw [h]; simp
    obtain ⟨h1, h2⟩ := fix32C h' (h32 p (by simp))
    obtain ⟨h3, h4⟩ := fix32C h2 (h32 r (by simp))
    exact ⟨q + 32 + 32, fxs_succ (j := 1) (fxs_succ (j := 0) rfl h1) h3, h4⟩
  | _ :: _ :: _ :: _, hl, _, _ => absurd hl (by simp only [List.length_cons]; omega)
theorem cmT_list (m : Nat) (P : List ByteArray) (g t : ByteArray) : (cmT (m : Int) P g t).data.toList = [67] ++ (put m ++ (put P.length ++ ((catB P).data.toList ++ (g.data.toList ++ (put t.size ++ (t.data.toList ++ [])))))) := by
  unfold cmT hdC pnC ptC
  simp only [ba_appC, List.append_assoc, Int.toNat_natCast, List.append_nil]
theorem gs_is {k : Int} {P : List ByteArray} {g t : ByteArray} (h : cmok k P g t = true) : Rd.fix (cmT k P g t) 0 0 1 = (⟨#[67]⟩, 1, 0) ∧ Gs (cmT k P g t) 1 0 k P g t 0 := by
  have K := cmok_of h
  obtain ⟨m, rfl⟩ := Int.eq_ofNat_of_zero_le (show 0 ≤ k by have := K.k1; omega)
  have hk2 := K.k2
  have hn := K.n
  have ht := K.t
  have hL := cmT_list m P g t
  generalize cmT (m : Int) P g t = S at hL
  have a0 : S.data.toList.drop 0 = (⟨#[67]⟩ : ByteArray).data.toList ++ (put m ++ (put P.length ++ ((catB P).data.toList ++ (g.data.toList ++ (put t.size ++ (t.data.toList ++ [])))))) := by rw [List.drop_zero, hL]
  have f0 : Rd.fix S 0 0 1 = (⟨#[67]⟩, 1, 0) := fix_isC S 0 ⟨#[67]⟩ _ (Nat.zero_le _) a0
  have a1 : S.data.toList.drop 1 = put m ++ (put P.length ++ ((catB P).data.toList ++ (g.data.toList ++ (put t.size ++ (t.data.toList ++ []))))) := by rw [hL]; rfl
  obtain ⟨f1, a2⟩ := num_isD (n := 4294967295) a1 (by omega) hk2
  obtain ⟨f2, a3⟩ := num_isD (n := 2) a2 (by omega) (by omega)
  obtain ⟨q3, f3, a4⟩ := fxs_is P hn K.p a3
  obtain ⟨f4, a5⟩ := fix32C a4 K.g
  have f5 := text_isC S (q3 + 32) 40 t [] a5 (by omega) (by omega)
  exact ⟨f0, _, _, P.length, _, _, _, _, _, _, _, f1, f2, hn, f3, f4, f5⟩
theorem gs_fun {S : ByteArray} {q0 : Nat} {e0 a a' : Int} {ps ps' : List ByteArray} {g g' t t' : ByteArray} {er er' : Int} (h : Gs S q0 e0 a ps g t er) (h' : Gs S q0 e0 a' ps' g' t' er') : a = a' ∧ ps = ps' ∧ g = g' ∧ t = t' ∧ er = er' := by
  obtain ⟨q1, e1, M, q2, e2, q3, e3, q4, e4, q5, h1, h2, hM, h3, h4, h5⟩ := h
  obtain ⟨r1, f1, M', r2, f2, r3, f3, r4, f4, r5, k1, k2, kM, k3, k4, k5⟩ := h'
  have x := h1.symm.trans k1
  simp only [Prod.mk.injEq] at x
  obtain ⟨rfl, rfl, rfl⟩ := x
  have x := h2.symm.trans k2
  simp only [Prod.mk.injEq] at x
  obtain ⟨hm, rfl, rfl⟩ := x
  obtain rfl : M = M' := by omega
  have x := h3.symm.trans k3
  simp only [Prod.mk.injEq] at x
  obtain ⟨rfl, rfl, rfl⟩ := x
  have x := h4.symm.trans k4
  simp only [Prod.mk.injEq] at x
  obtain ⟨rfl, rfl, rfl⟩ := x
  have x := h5.symm.trans k5
  simp only [Prod.mk.injEq] at x
  obtain ⟨rfl, rfl, rfl⟩ := x
  exact ⟨rfl, rfl, rfl, rfl, rfl⟩
theorem gs_len {S : ByteArray} {q0 : Nat} {e0 a : Int} {ps : List ByteArray} {g t : ByteArray} {er : Int} (h : Gs S q0 e0 a ps g t er) : ps.length ≤ 2 := by
  obtain ⟨q1, e1, M, q2, e2, q3, e3, q4, e4, q5, h1, h2, hM, h3, h4, h5⟩ := h
  have y := fxs_len (S := S) (q := q2) (e := e2) M
  rw [h3] at y
  have z : ps.length = M := y
  omega
/-- of a text that is a commit's that commit, of another none -/
def TkP (ok bad : Value) (S : ByteArray) (w : World) (e : Ending) (w' : World) : Prop :=
  (∃ (k : Int) (P : List ByteArray) (g t : ByteArray) (A : Option Addr) (n c : Nat), cmok k P g t = true ∧ S = cmT k P g t ∧ e = .returned (.tuple #[.agg #[.int .i64 k, .slice A n c, .string g, .string t], ok]) ∧ RdX stC 1 w' A n P ∧ n ≤ c ∧ (∀ b o, A = some ⟨b, o, none⟩ → w.heap.size < b) ∧ Below w.heap.size w w') ∨ ((∀ k P g t, cmok k P g t = true → S ≠ cmT k P g t) ∧ e = .returned (.tuple #[.agg #[.int .i64 0, .slice none 0 0, .string ⟨#[]⟩, .string ⟨#[]⟩], bad]) ∧ Below w.heap.size w w')
theorem tk_no {S x0 : ByteArray} {q0 : Nat} {e0 a : Int} {ps : List ByteArray} {g t : ByteArray} {er : Int} (h0 : Rd.fix S 0 0 1 = (x0, q0, e0)) (hG : Gs S q0 e0 a ps g t er) (h : ¬ (cmok a ps g t = true ∧ S = cmT a ps g t)) : ∀ k P g t, cmok k P g t = true → S ≠ cmT k P g t := by
  intro k P g' t' hk hS
  obtain ⟨f0, f1⟩ := gs_is hk
  rw [← hS] at f0 f1
  have x := h0.symm.trans f0
  simp only [Prod.mk.injEq] at x
  obtain ⟨rfl, rfl, rfl⟩ := x
  obtain ⟨rfl, rfl, rfl, rfl, rfl⟩ := gs_fun hG f1
  exact h ⟨hk, hS⟩
theorem ba_neC {a b : ByteArray} (h : a ≠ b) : (a == b) = false := by
  cases q : (a == b) with
  | false => rfl
  | true => exact absurd (ba_beqC q) h
theorem ba_neLC {a b : ByteArray} (h : a ≠ b) : (a.toList == b.toList) = false := by
  rw [beq_eq_false_iff_ne, Lib.toList_data, Lib.toList_data]
  exact fun e => h (ba_extC e)
theorem ba_neLD {a b : ByteArray} (h : a ≠ b) : (a.toList == b.data.toList) = false := by
  rw [beq_eq_false_iff_ne, Lib.toList_data]
  exact fun e => h (ba_extC e)
set_option linter.unusedSimpArgs false in
set_option maxRecDepth 100000 in
set_option maxHeartbeats 8000000 in
theorem ctake_any (S : ByteArray) (w : World) (hS : S.size ≤ 1000000) : Calls Tryd.prog 22 #[.string S] w (TkP (.int .i64 0) (.int .i64 3) S w) := by
  obtain ⟨x0, q0, e0, h0⟩ : ∃ x0 q0 e0, Rd.fix S 0 0 1 = (x0, q0, e0) := ⟨_, _, _, rfl⟩
  obtain ⟨a, ps, g, t, er, hG⟩ := gs_ex S q0 e0
  have hlen := gs_len hG
  have HGU := Lib.hid (fun W : World => guess_any S x0 q0 e0 a ps g t er W hS h0 hG)
  have HNO := Lib.hid (tk_no h0 hG)
  clear h0 hG hS
  have HF := Lib.hid (blk_new w (.cells #[.int .i64 0, .slice none 0 0, .string ⟨#[]⟩, .string ⟨#[]⟩] 41 (0, 0)))
  have HB := Lib.hid ((Below.refl w.heap.size w).alloc (Nat.le_refl _) (.cells #[.int .i64 0, .slice none 0 0, .string ⟨#[]⟩, .string ⟨#[]⟩] 41 (0, 0)))
  obtain ⟨v, hv⟩ : ∃ v, v = w.alloc (.cells #[.int .i64 0, .slice none 0 0, .string ⟨#[]⟩, .string ⟨#[]⟩] 41 (0, 0)) := ⟨_, rfl⟩
  have HV := Lib.hid hv
  rw [← hv] at HF HB
  clear hv
  go_enter Tryd.func22, Tryd.ntmps22
  go_upto_region 1 with (fail)
  rw [← HV.out]
  clear HV
  go_wp2_with fail
  refine (HGU.out v).mono ?_
  rintro e w1 ⟨A, n, c, rfl, hrd, hnc, hAr, hb⟩
  have hnr : ∀ b o, A = some ⟨b, o, none⟩ → b ≠ w.heap.size := fun b o e => by have h1 := hAr b o e; have h2 := HB.out.size; omega
  have hAw : ∀ b o, A = some ⟨b, o, none⟩ → w.heap.size < b := fun b o e => by have h1 := hAr b o e; have h2 := HB.out.size; omega
  clear hAr
  have hn2 : n ≤ 2 := by rw [← hrd.1]; exact hlen
  have HF := Lib.hid (blk_alloc (blk_below HF.out hb) (.cells #[.int .i64 a, .slice A n c, .string g, .string t] 41 (0, 0)))
  have HB := Lib.hid ((HB.out.trans (hb.mono HB.out.size)).alloc (HB.out.trans (hb.mono HB.out.size)).size (.cells #[.int .i64 a, .slice A n c, .string g, .string t] 41 (0, 0)))
  have H4 := Lib.hid (blk_new w1 (.cells #[.int .i64 a, .slice A n c, .string g, .string t] 41 (0, 0)))
  have HRD := Lib.hid (hrd.below ((Below.refl _ _).alloc (Nat.le_refl _) (.cells #[.int .i64 a, .slice A n c, .string g, .string t] 41 (0, 0))))
  clear hrd hb HGU hlen
  go_upto_region 2 with (fail)
  generalize w1.alloc (.cells #[.int .i64 a, .slice A n c, .string g, .string t] 41 (0, 0)) = w2 at *
  generalize w1.heap.size = b4 at *
  have y0 : w2.cell? ⟨b4, 0, none⟩ = some (.int .i64 a) := (cell_of_row _ _ 0 _ _ _ H4.out).trans rfl
  have y1 : w2.cell? ⟨b4, 1, none⟩ = some (.slice A n c) := (cell_of_row _ _ 1 _ _ _ H4.out).trans rfl
  have y2 : w2.cell? ⟨b4, 2, none⟩ = some (.string g) := (cell_of_row _ _ 2 _ _ _ H4.out).trans rfl
  have y3 : w2.cell? ⟨b4, 3, none⟩ = some (.string t) := (cell_of_row _ _ 3 _ _ _ H4.out).trans rfl
  go_wp2_with fail
  have HP := cput_any (k := a) (g := g) (t := t) HRD.out (by omega) hnc
  unfold cmV at HP
  cases hok : cmok a ps g t with
  | false =>
    rw [hok, if_neg (by simp)] at HP
    refine HP.mono ?_
    rintro e w3 ⟨rfl, hb⟩
    have HF := Lib.hid (blk_below HF.out hb)
    have HB := Lib.hid (HB.out.trans (hb.mono HB.out.size))
    clear hb HP y0 y1 y2 y3
    have HN := Lib.hid (HNO.out (by rw [hok]; simp))
    go_wp2_with (first
      | refine wpList_store_rowY rfl 41 (.tmp 2) (.tmp 21) rfl w.heap.size #[.int .i64 0, .slice none 0 0, .string ⟨#[]⟩, .string ⟨#[]⟩] rfl rfl 41 _ HF.out (info_cmC _ _ _ _) rfl (one_cmC _ _ _ _ _ _) w.heap.size w HB.out (Nat.le_refl _) ?_)
    intro W8 hbk hoth hbel hsz8
    go_wp2_with fail
    refine bodyPost_ret (results_ctY rfl _ _ w.heap.size _ rfl (run_loadVar_row _ w.heap.size 41 41 _ (0, 0) _ hbk.out Tryd.underlying41 rfl (info_cmC _ _ _ _))) rfl ?_
    exact .inr ⟨HN.out, rfl, hbel.out⟩
  | true =>
    rw [if_pos hok] at HP
    obtain ⟨U, hU⟩ : ∃ U, U = cmT a ps g t := ⟨_, rfl⟩
    rw [← hU] at HP
    have HU := Lib.hid hU
    clear hU
    by_cases hSU : S = U
    · subst hSU
      have s1 : (S == S) = true := by show (S.data == S.data) = true; simp
      have s2 : (S.toList == S.toList) = true := by simp
      refine HP.mono ?_
      rintro e w3 ⟨rfl, hb⟩
      have HF := Lib.hid (blk_below HF.out hb)
      have H4 := Lib.hid (blk_below H4.out hb)
      have HB := Lib.hid (HB.out.trans (hb.mono HB.out.size))
      have HRD := Lib.hid (HRD.out.below hb)
      clear hb HP y0 y1 y2 y3
      have y0 : w3.cell? ⟨b4, 0, none⟩ = some (.int .i64 a) := (cell_of_row _ _ 0 _ _ _ H4.out).trans rfl
      have y1 : w3.cell? ⟨b4, 1, none⟩ = some (.slice A n c) := (cell_of_row _ _ 1 _ _ _ H4.out).trans rfl
      have y2 : w3.cell? ⟨b4, 2, none⟩ = some (.string g) := (cell_of_row _ _ 2 _ _ _ H4.out).trans rfl
      have y3 : w3.cell? ⟨b4, 3, none⟩ = some (.string t) := (cell_of_row _ _ 3 _ _ _ H4.out).trans rfl
      go_wp2_with (first
        | refine wpList_store_rowY rfl 41 (.tmp 2) (.tmp 22) rfl w.heap.size #[.int .i64 a, .slice A n c, .string g, .string t] rfl rfl 41 _ HF.out (info_cmC _ _ _ _) rfl (one_cmC _ _ _ _ _ _) w.heap.size w HB.out (Nat.le_refl _) ?_)
      intro W8 hbk hoth hbel hsz8
      have HRD := Lib.hid (show RdX stC 1 W8 A n ps from HRD.out.othR hoth.out hsz8.out hnr)
      go_wp2_with fail
      refine bodyPost_ret (results_ctY rfl _ _ w.heap.size _ rfl (run_loadVar_row _ w.heap.size 41 41 _ (0, 0) _ hbk.out Tryd.underlying41 rfl (info_cmC _ _ _ _))) rfl ?_
      exact .inl ⟨a, ps, g, t, A, n, c, hok, HU.out, rfl, HRD.out, hnc, hAw, hbel.out⟩
    · have s1 : (U == S) = false := ba_neC (fun e => hSU e.symm)
      have s2 : (U.toList == S.toList) = false := ba_neLC (fun e => hSU e.symm)
      have s3 : (U.toList == S.data.toList) = false := ba_neLD (fun e => hSU e.symm)
      refine HP.mono ?_
      rintro e w3 ⟨rfl, hb⟩
      have HF := Lib.hid (blk_below HF.out hb)
      have HB := Lib.hid (HB.out.trans (hb.mono HB.out.size))
      clear hb HP y0 y1 y2 y3
      have HN := Lib.hid (HNO.out (by rw [← HU.out]; exact fun h => hSU h.2))
      go_wp2_with (first
        | refine wpList_store_rowY rfl 41 (.tmp 2) (.tmp 21) rfl w.heap.size #[.int .i64 0, .slice none 0 0, .string ⟨#[]⟩, .string ⟨#[]⟩] rfl rfl 41 _ HF.out (info_cmC _ _ _ _) rfl (one_cmC _ _ _ _ _ _) w.heap.size w HB.out (Nat.le_refl _) ?_)
      intro W8 hbk hoth hbel hsz8
      go_wp2_with fail
      refine bodyPost_ret (results_ctY rfl _ _ w.heap.size _ rfl (run_loadVar_row _ w.heap.size 41 41 _ (0, 0) _ hbk.out Tryd.underlying41 rfl (info_cmC _ _ _ _))) rfl ?_
      exact .inr ⟨HN.out, rfl, hbel.out⟩
end Go.Proofs.YtiflieaemgamkaaDoor
