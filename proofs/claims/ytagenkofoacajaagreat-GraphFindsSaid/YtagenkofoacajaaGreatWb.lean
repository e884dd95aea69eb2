/- The contracts of value's mayStand, isPlain, Compare, of cmp's Compare and Or, and of the document's Less, over this translation. No condition. -/
import Derived.Test.YtagenkofoacajaaGreatWa
import Derived.Test.YtagenkofoacajaaGreatWo
import Derived.StillTailTactics
import Derived.Deep.DeepCutAuto
namespace Go.Proofs.YtagenkofoacajaaGreat
open Go.RowKit Vi Hm

/-- is it a letter, a digit, -, . or _? -/
def mayB (c : UInt8) : Bool := (decide (97 ≤ c.toNat) && decide (c.toNat ≤ 122)) || (decide (65 ≤ c.toNat) && decide (c.toNat ≤ 90)) || (decide (48 ≤ c.toNat) && decide (c.toNat ≤ 57)) || decide (c.toNat = 45) || decide (c.toNat = 46) || decide (c.toNat = 95)
theorem retB {a b : Bool} (h : a = b) : Ending.returned (.bool a) = .returned (.bool b) := by rw [h]
def plainB (l : List UInt8) : Bool := l.all mayB
/-- which of two numbers, of two texts, stands first -/
def cmpI (a b : Int) : Int := if a < b then -1 else if b < a then 1 else 0
def cmpS (s t : ByteArray) : Int := if Op.bytesLess s.toList t.toList = true then -1 else if Op.bytesLess t.toList s.toList = true then 1 else 0
theorem retZ {a b : Int} (h : a = b) : Ending.returned (.int .i64 a) = .returned (.int .i64 b) := by rw [h]
theorem cmpI_any (a b : Int) (w : World) : Calls Tryz.prog 98 #[.int .i64 a, .int .i64 b] w fun e w' => e = .returned (.int .i64 (cmpI a b)) ∧ w = w' := by
  by_cases h1 : a < b
  · have HR := Lib.hid (show -1 = cmpI a b by unfold cmpI; rw [if_pos h1])
    have HN := Lib.hid (fun (x : Int) (W : World) => (show Calls Tryz.prog 120 #[.int .i64 x] W fun e w' => e = .returned (.bool false) ∧ W = w' by
      go_enter Tryz.func120, Tryz.ntmps120
      go_wp2
      go_ret
      exact ⟨rfl, rfl⟩))
    go_enter Tryz.func98, Tryz.ntmps98
    go_wp2_with fail
    refine (HN.out a _).mono ?_
    rintro e w1 ⟨rfl, rfl⟩
    go_wp2_with fail
    refine (HN.out b _).mono ?_
    rintro e w1 ⟨rfl, rfl⟩
    go_wp2_with fail
    go_ret
    exact ⟨retZ HR.out, rfl⟩
  · by_cases h2 : b < a
    · have HR := Lib.hid (show 1 = cmpI a b by unfold cmpI; rw [if_neg h1, if_pos h2])
      have HN := Lib.hid (fun (x : Int) (W : World) => (show Calls Tryz.prog 120 #[.int .i64 x] W fun e w' => e = .returned (.bool false) ∧ W = w' by
        go_enter Tryz.func120, Tryz.ntmps120
        go_wp2
        go_ret
        exact ⟨rfl, rfl⟩))
      go_enter Tryz.func98, Tryz.ntmps98
      go_wp2_with fail
      refine (HN.out a _).mono ?_
      rintro e w1 ⟨rfl, rfl⟩
      go_wp2_with fail
      refine (HN.out b _).mono ?_
      rintro e w1 ⟨rfl, rfl⟩
      go_wp2_with fail
      go_ret
      exact ⟨retZ HR.out, rfl⟩
    · have HR := Lib.hid (show 0 = cmpI a b by unfold cmpI; rw [if_neg h1, if_neg h2])
      have HN := Lib.hid (fun (x : Int) (W : World) => (show Calls Tryz.prog 120 #[.int .i64 x] W fun e w' => e = .returned (.bool false) ∧ W = w' by
        go_enter Tryz.func120, Tryz.ntmps120
        go_wp2
        go_ret
        exact ⟨rfl, rfl⟩))
      go_enter Tryz.func98, Tryz.ntmps98
      go_wp2_with fail
      refine (HN.out a _).mono ?_
      rintro e w1 ⟨rfl, rfl⟩
      go_wp2_with fail
      refine (HN.out b _).mono ?_
      rintro e w1 ⟨rfl, rfl⟩
      go_wp2_with fail
      go_ret
      exact ⟨retZ HR.out, rfl⟩
theorem nanW (s : ByteArray) (w : World) : Calls Tryz.prog 92 #[.string s] w fun e w' => e = .returned (.bool false) ∧ w = w' := by
  go_enter Tryz.func92, Tryz.ntmps92
  go_wp2
  go_ret
  exact ⟨rfl, rfl⟩
theorem cmpS_any (s t : ByteArray) (w : World) : Calls Tryz.prog 61 #[.string s, .string t] w fun e w' => e = .returned (.int .i64 (cmpS s t)) ∧ w = w' := by
  have HR := Lib.hid (show cmpS s t = if Op.bytesLess s.toList t.toList = true then -1 else if Op.bytesLess t.toList s.toList = true then 1 else 0 from rfl)
  cases h1 : Op.bytesLess s.toList t.toList with
  | true =>
    have HQ := Lib.hid (show -1 = cmpS s t by rw [HR.out, if_pos h1])
    clear HR
    go_enter Tryz.func61, Tryz.ntmps61
    go_wp2_with fail
    refine (nanW s _).mono ?_
    rintro e w1 ⟨rfl, rfl⟩
    go_wp2_with fail
    refine (nanW t _).mono ?_
    rintro e w1 ⟨rfl, rfl⟩
    go_wp2_with fail
    go_ret
    exact ⟨retZ HQ.out, rfl⟩
  | false =>
    cases h2 : Op.bytesLess t.toList s.toList with
    | true =>
      have HQ := Lib.hid (show 1 = cmpS s t by rw [HR.out, if_neg (by rw [h1]; simp), if_pos h2])
      have hq : (s.toList == t.toList) = false := by
        rw [beq_eq_false_iff_ne]
        intro e
        rw [e, blw_irrefl] at h2
        cases h2
      clear HR
      go_enter Tryz.func61, Tryz.ntmps61
      go_wp2_with fail
      refine (nanW s _).mono ?_
      rintro e w1 ⟨rfl, rfl⟩
      go_wp2_with fail
      refine (nanW t _).mono ?_
      rintro e w1 ⟨rfl, rfl⟩
      go_wp2_with fail
      go_ret
      exact ⟨retZ HQ.out, rfl⟩
    | false =>
      have HQ := Lib.hid (show 0 = cmpS s t by rw [HR.out, if_neg (by rw [h1]; simp), if_neg (by rw [h2]; simp)])
      have hq : (s.toList == t.toList) = true := by rw [beq_iff_eq]; exact blw_total _ _ h1 h2
      clear HR
      go_enter Tryz.func61, Tryz.ntmps61
      go_wp2_with fail
      refine (nanW s _).mono ?_
      rintro e w1 ⟨rfl, rfl⟩
      go_wp2_with fail
      refine (nanW t _).mono ?_
      rintro e w1 ⟨rfl, rfl⟩
      go_wp2_with fail
      go_ret
      exact ⟨retZ HQ.out, rfl⟩
/-- the first that is not 0 -/
def orI (a b c : Int) : Int := if a ≠ 0 then a else if b ≠ 0 then b else c
theorem or_any (g : Nat) (a b c : Int) (w : World) (ha : w.cell? ⟨g, 0, none⟩ = some (.int .i64 a)) (hb : w.cell? ⟨g, 1, none⟩ = some (.int .i64 b)) (hc : w.cell? ⟨g, 2, none⟩ = some (.int .i64 c)) :
    Calls Tryz.prog 97 #[.slice (some ⟨g, 0, none⟩) 3 3] w fun e w' => e = .returned (.int .i64 (orI a b c)) ∧ w = w' := by
  have HA := Lib.hid ha
  have HB := Lib.hid hb
  have HC := Lib.hid hc
  clear ha hb hc
  have HO := Lib.hid (show orI a b c = if a ≠ 0 then a else if b ≠ 0 then b else c from rfl)
  go_enter Tryz.func97, Tryz.ntmps97
  go_wp2_with fail
  go_loop [8] (fun i => ∃ k : Nat, k ≤ 3 ∧ i = .int .i64 (k : Int) ∧ Hid ((0 < k → a = 0) ∧ (1 < k → b = 0) ∧ (2 < k → c = 0))) (fun i => 3 - (intOf i).toNat)
  case atStart => exact ⟨0, by omega, rfl, by omega, by omega, by omega⟩
  case round =>
    obtain ⟨k, hk, rfl, HK⟩ := hrel
    rcases (show k = 0 ∨ k = 1 ∨ k = 2 ∨ k = 3 by omega) with rfl | rfl | rfl | rfl
    · have ca := HA.out
      by_cases h : a = 0
      · have q : (a == 0) = true := by rw [beq_iff_eq]; exact h
        have q2 : (a != 0) = false := by simp [h]
        have HK2 := Lib.hid (show (0 < 1 → a = 0) ∧ (1 < 1 → b = 0) ∧ (2 < 1 → c = 0) from ⟨fun _ => h, by omega, by omega⟩)
        clear h HK
        go_wp2_with fail
        go_round
        case rel => exact ⟨1, by omega, rfl, HK2.out⟩
        case measure => simp [intOf]
      · have q : (a == 0) = false := by rw [beq_eq_false_iff_ne]; exact h
        have q2 : (a != 0) = true := by simp [h]
        have HR := Lib.hid (show a = orI a b c by rw [HO.out, if_pos h])
        clear h HK
        go_wp2_with fail
        go_ret
        exact ⟨retZ HR.out, rfl⟩
    · have cb := HB.out
      by_cases h : b = 0
      · have q : (b == 0) = true := by rw [beq_iff_eq]; exact h
        have q2 : (b != 0) = false := by simp [h]
        have HK2 := Lib.hid (show (0 < 2 → a = 0) ∧ (1 < 2 → b = 0) ∧ (2 < 2 → c = 0) from ⟨fun _ => HK.out.1 (by omega), fun _ => h, by omega⟩)
        clear h HK
        go_wp2_with fail
        go_round
        case rel => exact ⟨2, by omega, rfl, HK2.out⟩
        case measure => simp [intOf]
      · have q : (b == 0) = false := by rw [beq_eq_false_iff_ne]; exact h
        have q2 : (b != 0) = true := by simp [h]
        have HR := Lib.hid (show b = orI a b c by rw [HO.out, if_neg (by simp [HK.out.1 (by omega)]), if_pos h])
        clear h HK
        go_wp2_with fail
        go_ret
        exact ⟨retZ HR.out, rfl⟩
    · have cc := HC.out
      by_cases h : c = 0
      · have q : (c == 0) = true := by rw [beq_iff_eq]; exact h
        have q2 : (c != 0) = false := by simp [h]
        have HK2 := Lib.hid (show (0 < 3 → a = 0) ∧ (1 < 3 → b = 0) ∧ (2 < 3 → c = 0) from ⟨fun _ => HK.out.1 (by omega), fun _ => HK.out.2.1 (by omega), fun _ => h⟩)
        clear h HK
        go_wp2_with fail
        go_round
        case rel => exact ⟨3, by omega, rfl, HK2.out⟩
        case measure => simp [intOf]
      · have q : (c == 0) = false := by rw [beq_eq_false_iff_ne]; exact h
        have q2 : (c != 0) = true := by simp [h]
        have HR := Lib.hid (show c = orI a b c by rw [HO.out, if_neg (by simp [HK.out.1 (by omega)]), if_neg (by simp [HK.out.2.1 (by omega)])])
        clear h HK
        go_wp2_with fail
        go_ret
        exact ⟨retZ HR.out, rfl⟩
    · have HR := Lib.hid (show 0 = orI a b c by rw [HO.out, if_neg (by simp [HK.out.1 (by omega)]), if_neg (by simp [HK.out.2.1 (by omega)]), HK.out.2.2 (by omega)])
      clear HK
      go_wp2_with fail
      go_ret
      exact ⟨retZ HR.out, rfl⟩
theorem gen_worldW {P : Program} {c : Code} {Q : Exit → Act → World → Prop} {a : Act} {W0 : World} (F : World → Prop) (h0 : F W0) (h : ∀ W, F W → Code.wp P c Q a W) : Code.wp P c Q a W0 := h _ h0
/-- two values in boxes of their own -/
structure TwoV (w : World) (k1 n1 : Int) (t1 : ByteArray) (k2 n2 : Int) (t2 : ByteArray) (W : World) : Prop where
  c0 : W.cell? ⟨w.heap.size, 0, none⟩ = some (.int .i64 k1)
  c1 : W.cell? ⟨w.heap.size, 1, none⟩ = some (.int .i64 n1)
  c2 : W.cell? ⟨w.heap.size, 2, none⟩ = some (.string t1)
  d0 : W.cell? ⟨w.heap.size + 1, 0, none⟩ = some (.int .i64 k2)
  d1 : W.cell? ⟨w.heap.size + 1, 1, none⟩ = some (.int .i64 n2)
  d2 : W.cell? ⟨w.heap.size + 1, 2, none⟩ = some (.string t2)
  old : Below w.heap.size w W
theorem twoV (w : World) (k1 n1 : Int) (t1 : ByteArray) (k2 n2 : Int) (t2 : ByteArray) : TwoV w k1 n1 t1 k2 n2 t2 ((w.alloc (.cells #[.int .i64 k1, .int .i64 n1, .string t1] 61)).alloc (.cells #[.int .i64 k2, .int .i64 n2, .string t2] 61)) :=
  ⟨by simp, by simp, by simp, by simp, by simp, by simp, ((Below.refl _ w).alloc (Nat.le_refl _) _).alloc (by simp) _⟩
/-- which of two values stands first -/
def vcmp (k1 n1 : Int) (t1 : ByteArray) (k2 n2 : Int) (t2 : ByteArray) : Int := orI (cmpI k1 k2) (cmpI n1 n2) (cmpS t1 t2)
/-- does one stand ahead of another? -/
def vless (k1 n1 : Int) (t1 : ByteArray) (k2 n2 : Int) (t2 : ByteArray) : Bool := if k1 ≠ k2 then decide (k1 < k2) else if n1 ≠ n2 then decide (n1 < n2) else Op.bytesLess t1.toList t2.toList
end Go.Proofs.YtagenkofoacajaaGreat
