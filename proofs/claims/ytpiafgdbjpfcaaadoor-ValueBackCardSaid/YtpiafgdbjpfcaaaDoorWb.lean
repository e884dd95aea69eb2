/- The contracts of value's mayStand, isPlain, Compare, of cmp's Compare and Or, and of the document's Less, over this translation. No condition. -/
import Derived.Test.YtpiafgdbjpfcaaaDoorWa
import Derived.Test.YtpiafgdbjpfcaaaDoorWo
import Derived.StillTailTactics
import Derived.Deep.DeepCutAuto
namespace Go.Proofs.YtpiafgdbjpfcaaaDoor
open Go.RowKit Vi Hm

/-- is it a letter, a digit, -, . or _? -/
def mayB (c : UInt8) : Bool := (decide (97 ≤ c.toNat) && decide (c.toNat ≤ 122)) || (decide (65 ≤ c.toNat) && decide (c.toNat ≤ 90)) || (decide (48 ≤ c.toNat) && decide (c.toNat ≤ 57)) || decide (c.toNat = 45) || decide (c.toNat = 46) || decide (c.toNat = 95)
theorem retB {a b : Bool} (h : a = b) : Ending.returned (.bool a) = .returned (.bool b) := by rw [h]
set_option maxRecDepth 100000 in
set_option maxHeartbeats 800000 in
theorem mayB_any (c : UInt8) (w : World) : Calls Tryd.prog 77 #[.int .u8 (c.toNat : Int)] w fun e w' => e = .returned (.bool (mayB c)) ∧ w = w' := by
  have hb := c.toNat_lt
  have HV := Lib.hid (show mayB c = ((decide (97 ≤ c.toNat) && decide (c.toNat ≤ 122)) || (decide (65 ≤ c.toNat) && decide (c.toNat ≤ 90)) || (decide (48 ≤ c.toNat) && decide (c.toNat ≤ 57)) || decide (c.toNat = 45) || decide (c.toNat = 46) || decide (c.toNat = 95)) from rfl)
  generalize c.toNat = n at *
  by_cases e1 : n = 45
  · subst e1
    go_enter Tryd.func77, Tryd.ntmps77
    go_wp2
    go_ret
    exact ⟨retB (by rw [HV.out]; rfl), rfl⟩
  · by_cases e2 : n = 46
    · subst e2
      go_enter Tryd.func77, Tryd.ntmps77
      go_wp2
      go_ret
      exact ⟨retB (by rw [HV.out]; rfl), rfl⟩
    · have b1 : ((n : Int) == 45) = false := by rw [beq_eq_false_iff_ne]; omega
      have b2 : ((n : Int) == 46) = false := by rw [beq_eq_false_iff_ne]; omega
      by_cases a1 : 97 ≤ (n : Int) <;> by_cases a2 : (n : Int) ≤ 122 <;> by_cases a3 : 65 ≤ (n : Int) <;> by_cases a4 : (n : Int) ≤ 90 <;> by_cases a5 : 48 ≤ (n : Int) <;> by_cases a6 : (n : Int) ≤ 57 <;> by_cases a7 : n = 95
      all_goals first
        | (exfalso; omega)
        | (subst a7
           go_enter Tryd.func77, Tryd.ntmps77
           go_wp2
           go_ret
           exact ⟨retB (by rw [HV.out]; rfl), rfl⟩)
        | (have b3 : ((n : Int) == 95) = false := by rw [beq_eq_false_iff_ne]; omega
           go_enter Tryd.func77, Tryd.ntmps77
           go_wp2
           go_ret
           exact ⟨retB (by rw [HV.out]; simp; omega), rfl⟩)
def plainB (l : List UInt8) : Bool := l.all mayB
set_option maxRecDepth 100000 in
set_option maxHeartbeats 800000 in
theorem plain_any (s : ByteArray) (w : World) (hs : s.size ≤ 1000000) : Calls Tryd.prog 35 #[.string s] w fun e w' => e = .returned (.bool (plainB s.data.toList)) ∧ w = w' := by
  go_enter Tryd.func35, Tryd.ntmps35
  go_wp2_with fail
  go_loop [6] (fun i => ∃ k : Nat, k ≤ s.size ∧ i = .int .i64 (k : Int) ∧ Hid (plainB s.data.toList = plainB (s.data.toList.drop k))) (fun i => s.size - (intOf i).toNat)
  case atStart => exact ⟨0, Nat.zero_le _, rfl, rfl⟩
  case round =>
    obtain ⟨k, hk, rfl, HP⟩ := hrel
    by_cases hlt : k < s.size
    · have HD := Lib.hid (show plainB (s.data.toList.drop k) = (mayB s[k] && plainB (s.data.toList.drop (k + 1))) by
        rw [← List.getElem_cons_drop (show k < s.data.toList.length by simpa using hlt)]
        rfl)
      have HM := Lib.hid (mayB_any s[k])
      cases hm : mayB s[k] with
      | true =>
        have HP2 := Lib.hid (show plainB s.data.toList = plainB (s.data.toList.drop (k + 1)) by rw [HP.out, HD.out, hm]; rfl)
        rw [hm] at HM
        clear hm HD HP
        go_wp2_with fail
        refine (HM.out _).mono ?_
        rintro e w1 ⟨rfl, rfl⟩
        go_wp2_with fail
        go_round
        case rel => exact ⟨k + 1, by omega, by go_num, HP2.out⟩
        case measure => simp [intOf]; omega
      | false =>
        have HP2 := Lib.hid (show false = plainB s.data.toList by rw [HP.out, HD.out, hm]; rfl)
        rw [hm] at HM
        clear hm HD HP
        go_wp2_with fail
        refine (HM.out _).mono ?_
        rintro e w1 ⟨rfl, rfl⟩
        go_wp2_with fail
        go_ret
        exact ⟨retB HP2.out, rfl⟩
    · have HP2 := Lib.hid (show true = plainB s.data.toList by rw [HP.out, List.drop_of_length_le (by simp; omega)]; rfl)
      clear HP
      go_wp2_with fail
      go_ret
      exact ⟨retB HP2.out, rfl⟩
/-- which of two numbers, of two texts, stands first -/
def cmpI (a b : Int) : Int := if a < b then -1 else if b < a then 1 else 0
def cmpS (s t : ByteArray) : Int := if Op.bytesLess s.toList t.toList = true then -1 else if Op.bytesLess t.toList s.toList = true then 1 else 0
theorem retZ {a b : Int} (h : a = b) : Ending.returned (.int .i64 a) = .returned (.int .i64 b) := by rw [h]
/-- the first that is not 0 -/
def orI (a b c : Int) : Int := if a ≠ 0 then a else if b ≠ 0 then b else c
theorem gen_worldW {P : Program} {c : Code} {Q : Exit → Act → World → Prop} {a : Act} {W0 : World} (F : World → Prop) (h0 : F W0) (h : ∀ W, F W → Code.wp P c Q a W) : Code.wp P c Q a W0 := h _ h0
/-- two values in boxes of their own -/
structure TwoV (w : World) (k1 n1 : Int) (t1 : ByteArray) (k2 n2 : Int) (t2 : ByteArray) (W : World) : Prop where
  c0 : W.cell? ⟨w.heap.size, 0, none⟩ = some (.int .i64 k1)
  c1 : W.cell? ⟨w.heap.size, 1, none⟩ = some (.int .i64 n1)
  c2 : W.cell? ⟨w.heap.size, 2, none⟩ = some (.string t1)
  d0 : W.cell? ⟨w.heap.size + 1, 0, none⟩ = some (.int .i64 k2)
  d1 : W.cell? ⟨w.heap.size + 1, 1, none⟩ = some (.int .i64 n2)
  d2 : W.cell? ⟨w.heap.size + 1, 2, none⟩ = some (.string t2)
  old : Below w.heap.size w W
theorem twoV (w : World) (k1 n1 : Int) (t1 : ByteArray) (k2 n2 : Int) (t2 : ByteArray) : TwoV w k1 n1 t1 k2 n2 t2 ((w.alloc (.cells #[.int .i64 k1, .int .i64 n1, .string t1] 24)).alloc (.cells #[.int .i64 k2, .int .i64 n2, .string t2] 24)) :=
  ⟨by simp, by simp, by simp, by simp, by simp, by simp, ((Below.refl _ w).alloc (Nat.le_refl _) _).alloc (by simp) _⟩
/-- which of two values stands first -/
def vcmp (k1 n1 : Int) (t1 : ByteArray) (k2 n2 : Int) (t2 : ByteArray) : Int := orI (cmpI k1 k2) (cmpI n1 n2) (cmpS t1 t2)
/-- does one stand ahead of another? -/
def vless (k1 n1 : Int) (t1 : ByteArray) (k2 n2 : Int) (t2 : ByteArray) : Bool := if k1 ≠ k2 then decide (k1 < k2) else if n1 ≠ n2 then decide (n1 < n2) else Op.bytesLess t1.toList t2.toList
end Go.Proofs.YtpiafgdbjpfcaaaDoor
