/- The contracts of the document's Is, tail, tens, Digits, plain, Put and Show of layer 6, of its Hex, and of strconv's FormatBool, over this translation. Conditions: texts of at most a million bytes. -/
import Derived.Test.YtagenkofoacajaaGreatWc
import Derived.Lib.ItoaNum
namespace Go.Proofs.YtagenkofoacajaaGreat
open Go.RowKit Vi Hm

theorem run_digs (n : Nat) (hn : n < 16) (z z1 : Int) (hz : z = (n : Int)) (hz1 : z1 = (n : Int) + 1) (W : World) : (Instr.slice 9 (.string ⟨#[48, 49, 50, 51, 52, 53, 54, 55, 56, 57, 97, 98, 99, 100, 101, 102]⟩) (some (.int .i64 z)) (some (.int .i64 z1)) none).run Tryz.prog W = .ok (.string ⟨#[hexd n]⟩) W := by
  subst hz
  subst hz1
  rw [run_slice_string _ _ _ _ _ _ _ Tryz.underlying9 (by omega) (by omega) (by show (n : Int) + 1 ≤ 16; omega)]
  rcases (show n = 0 ∨ n = 1 ∨ n = 2 ∨ n = 3 ∨ n = 4 ∨ n = 5 ∨ n = 6 ∨ n = 7 ∨ n = 8 ∨ n = 9 ∨ n = 10 ∨ n = 11 ∨ n = 12 ∨ n = 13 ∨ n = 14 ∨ n = 15 by omega) with rfl | rfl | rfl | rfl | rfl | rfl | rfl | rfl | rfl | rfl | rfl | rfl | rfl | rfl | rfl | rfl <;> rfl
theorem str_two (S : ByteArray) (l : List UInt8) (a b : UInt8) (h : S.data.toList = l) : (S ++ ⟨#[a]⟩ ++ ⟨#[b]⟩).data.toList = l ++ [a, b] := by
  subst h
  simp
set_option maxRecDepth 100000 in
set_option maxHeartbeats 1600000 in
theorem vis_any (k n : Int) (t : ByteArray) (w : World) :
    Calls Tryz.prog 103 #[.agg #[.int .i64 k, .int .i64 n, .string t]] w fun e w' => e = .returned (.bool (vok k n t)) ∧ Below w.heap.size w w' := by
  cases he : t.toList.isEmpty <;> by_cases h1 : k = 1
  all_goals first
    | (subst h1
       by_cases n0 : n = 0
       · subst n0
         have HV := Lib.hid (show vok 1 0 t = t.toList.isEmpty by simp [vok])
         rw [he] at HV
         go_enter Tryz.func103, Tryz.ntmps103
         go_wp2_with fail
         go_ret
         exact ⟨retB HV.out.symm, (Below.refl _ w).alloc (Nat.le_refl _) _⟩
       · by_cases n1 : n = 1
         · subst n1
           have HV := Lib.hid (show vok 1 1 t = t.toList.isEmpty by simp [vok])
           rw [he] at HV
           clear n0
           go_enter Tryz.func103, Tryz.ntmps103
           go_wp2_with fail
           go_ret
           exact ⟨retB HV.out.symm, (Below.refl _ w).alloc (Nat.le_refl _) _⟩
         · have HV := Lib.hid (show vok 1 n t = false by simp [vok, n0, n1])
           by_cases hp : 0 ≤ n
           · have d1 : decide (0 ≤ n) = true := decide_eq_true hp
             have d2 : decide (n ≤ 1) = false := decide_eq_false (by omega)
             clear n0 n1 hp
             go_enter Tryz.func103, Tryz.ntmps103
             go_wp2_with fail
             go_ret
             exact ⟨retB HV.out.symm, (Below.refl _ w).alloc (Nat.le_refl _) _⟩
           · have d1 : decide (0 ≤ n) = false := decide_eq_false hp
             clear n0 n1 hp
             go_enter Tryz.func103, Tryz.ntmps103
             go_wp2_with fail
             go_ret
             exact ⟨retB HV.out.symm, (Below.refl _ w).alloc (Nat.le_refl _) _⟩)
    | (have q1 : (k == 1) = false := by rw [beq_eq_false_iff_ne]; exact h1
       by_cases h2 : k = 2
       · subst h2
         have HV := Lib.hid (show vok 2 n t = t.toList.isEmpty by simp [vok])
         rw [he] at HV
         clear h1 q1
         go_enter Tryz.func103, Tryz.ntmps103
         go_wp2_with fail
         go_ret
         exact ⟨retB HV.out.symm, (Below.refl _ w).alloc (Nat.le_refl _) _⟩
       · have q2 : (k == 2) = false := by rw [beq_eq_false_iff_ne]; exact h2
         by_cases h3 : k = 3
         · subst h3
           clear h1 h2 q1 q2 he
           by_cases n0 : n = 0
           · subst n0
             by_cases hs : t.size ≤ 64
             · have HV := Lib.hid (show vok 3 0 t = true by simp [vok, hs])
               have d1 : decide ((t.size : Int) ≤ 64) = true := decide_eq_true (by omega)
               clear hs
               go_enter Tryz.func103, Tryz.ntmps103
               go_wp2_with fail
               go_ret
               exact ⟨retB HV.out.symm, (Below.refl _ w).alloc (Nat.le_refl _) _⟩
             · have HV := Lib.hid (show vok 3 0 t = false by simp [vok, hs])
               have d1 : decide ((t.size : Int) ≤ 64) = false := decide_eq_false (by omega)
               clear hs
               go_enter Tryz.func103, Tryz.ntmps103
               go_wp2_with fail
               go_ret
               exact ⟨retB HV.out.symm, (Below.refl _ w).alloc (Nat.le_refl _) _⟩
           · have q0 : (n == 0) = false := by rw [beq_eq_false_iff_ne]; exact n0
             have HV := Lib.hid (show vok 3 n t = false by simp [vok, n0])
             clear n0
             go_enter Tryz.func103, Tryz.ntmps103
             go_wp2_with fail
             go_ret
             exact ⟨retB HV.out.symm, (Below.refl _ w).alloc (Nat.le_refl _) _⟩
         · have q3 : (k == 3) = false := by rw [beq_eq_false_iff_ne]; exact h3
           have HV := Lib.hid (show vok k n t = false by simp [vok, h1, h2, h3])
           clear h1 h2 h3 he
           go_enter Tryz.func103, Tryz.ntmps103
           go_wp2_with fail
           go_ret
           exact ⟨retB HV.out.symm, (Below.refl _ w).alloc (Nat.le_refl _) _⟩)
/-- the digits ahead of a last one: none of 0 -/
def tensL (n : Nat) : List UInt8 := if n = 0 then [] else Lib.decDigits n
theorem dec_split (u : Nat) : Lib.decDigits u = tensL (u / 10) ++ [UInt8.ofNat (48 + u % 10)] := by
  rw [Lib.decDigits]
  by_cases h : u < 10
  · rw [dif_pos h, tensL, if_pos (by omega), Nat.mod_eq_of_lt h]
    rfl
  · rw [dif_neg h, tensL, if_neg (by omega)]
theorem tens_step (m : Nat) (h : 0 < m) : tensL m = tensL (m / 10) ++ [UInt8.ofNat (48 + m % 10)] := by
  rw [tensL, if_neg (by omega), dec_split]
theorem tens_len : ∀ (f n : Nat), n < 10 ^ f → (tensL n).length ≤ f := by
  intro f
  induction f with
  | zero => intro n h; have : n = 0 := by simpa using h
            subst this; simp [tensL]
  | succ f ih =>
    intro n h
    by_cases h0 : n = 0
    · subst h0; simp [tensL]
    · rw [tens_step n (by omega), List.length_append]
      have := ih (n / 10) (by rw [Nat.pow_succ] at h; omega)
      simp
      omega
theorem itoa_pos (u : Nat) : (⟨(tensL (u / 10)).toArray⟩ ++ ⟨#[UInt8.ofNat (48 + u % 10)]⟩ : ByteArray) = ⟨(Lib.itoa (u : Int)).toArray⟩ := by
  apply ByteArray.ext
  have : Lib.itoa (u : Int) = tensL (u / 10) ++ [UInt8.ofNat (48 + u % 10)] := by
    unfold Lib.itoa
    rw [if_neg (by omega), Int.toNat_natCast, dec_split]
  rw [this]
  simp
theorem itoa_neg (A : Nat) : (⟨#[45]⟩ ++ ⟨(tensL ((A + 1) / 10)).toArray⟩ ++ ⟨#[UInt8.ofNat (48 + (A + 1) % 10)]⟩ : ByteArray) = ⟨(Lib.itoa (-(A : Int) - 1)).toArray⟩ := by
  apply ByteArray.ext
  have : Lib.itoa (-(A : Int) - 1) = 45 :: (tensL ((A + 1) / 10) ++ [UInt8.ofNat (48 + (A + 1) % 10)]) := by
    unfold Lib.itoa
    rw [if_pos (by omega), show (-(A : Int) - 1).natAbs = A + 1 by omega, dec_split]
  rw [this]
  simp
end Go.Proofs.YtagenkofoacajaaGreat
