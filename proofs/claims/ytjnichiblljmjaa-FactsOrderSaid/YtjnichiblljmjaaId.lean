/- The document's Parted of layer 27, over this translation. Condition: texts of at most a million bytes. -/
import Derived.Test.YtjnichiblljmjaaIa
import Derived.IntWalk
namespace Go.Proofs.Ytjnichiblljmjaa
open Go.RowKit Vi

/-- where the first nought stands, or the end -/
def zN (s : ByteArray) : Nat := (s.data.toList.takeWhile (· != 0)).length
def partA (s : ByteArray) : ByteArray := s.extract 0 (zN s)
def partB (s : ByteArray) : ByteArray := s.extract (zN s + 1) s.size
theorem zN_from (s : ByteArray) (k : Nat) (hk : k ≤ s.size) (hz : ∀ j, (h : j < s.size) → j < k → s[j] ≠ 0) : zN s = k + ((s.data.toList.drop k).takeWhile (· != 0)).length := by
  have hl : s.data.toList.length = s.size := by simp
  have h1 : ∀ a ∈ s.data.toList.take k, (a != 0) = true := by
    intro a ha
    obtain ⟨j, hj, rfl⟩ := List.getElem_of_mem ha
    rw [List.length_take] at hj
    have q := hz j (by omega) (by omega)
    rw [List.getElem_take]
    rw [bne_iff_ne]
    exact q
  unfold zN
  conv => lhs; rw [← List.take_append_drop k s.data.toList]
  rw [List.takeWhile_append_of_pos h1, List.length_append, List.length_take, hl, Nat.min_eq_left hk]
theorem zN_at (s : ByteArray) (k : Nat) (hk : k < s.size) (hz : ∀ j, (h : j < s.size) → j < k → s[j] ≠ 0) (h0 : s[k] = 0) : zN s = k := by
  have hl : s.data.toList.length = s.size := by simp
  have hkl : k < s.data.toList.length := by omega
  rw [zN_from s k (by omega) hz, List.drop_eq_getElem_cons hkl, List.takeWhile_cons, if_neg]
  · rfl
  · rw [bne_iff_ne]
    exact fun q => q h0
theorem zN_end (s : ByteArray) (hz : ∀ j, (h : j < s.size) → j < s.size → s[j] ≠ 0) : zN s = s.size := by
  have hl : s.data.toList.length = s.size := by simp
  rw [zN_from s s.size (Nat.le_refl _) hz, List.drop_eq_nil_of_le (by omega)]
  rfl
set_option maxRecDepth 100000 in
set_option maxHeartbeats 1000000 in
theorem rparted_any (s : ByteArray) (w : World) (hs : s.size ≤ 1000000) :
    Calls Try.prog 39 #[.string s] w fun e w' => e = .returned (.tuple #[.string (partA s), .string (partB s)]) ∧ Below w.heap.size w w' := by
  go_enter Try.func39, Try.ntmps39
  go_wp2_with fail
  go_loop [4] (fun i => ∃ k : Nat, i = .int .i64 (k : Int) ∧ k ≤ s.size ∧ ∀ j, (h : j < s.size) → j < k → s[j] ≠ 0) (fun i => s.size - (intOf i).toNat)
  case atStart => exact ⟨0, rfl, Nat.zero_le _, fun _ _ h => absurd h (Nat.not_lt_zero _)⟩
  case round =>
    obtain ⟨k, rfl, hk, hz⟩ := hrel
    have HZ := Lib.hid hz
    clear hz
    by_cases hlt : k < s.size
    · have hd1 : decide ((k : Int) < (s.size : Int)) = true := decide_eq_true (by omega)
      have hi0 : (0 : Int) ≤ (k : Int) := by omega
      by_cases h0 : s[k] = 0
      · have e1 : ((s[k].toNat : Int) == 0) = true := by rw [h0]; rfl
        have c1 : (k : Int) ≤ (s.size : Int) := by omega
        have c2 : (0 : Int) ≤ (k : Int) + 1 := by omega
        have c3 : (k : Int) + 1 ≤ (s.size : Int) := by omega
        have hw : IntKind.i64.wrap ((k : Int) + 1) = (k : Int) + 1 := IntWalk.i64_in _ (by omega)
        have H0 := Lib.hid h0
        clear h0
        go_wp2_with fail
        go_region
        go_wp2_with fail
        have HV := Lib.hid (zN_at s k hlt HZ.out H0.out)
        go_ret2
        exact ⟨by unfold partA partB; rw [HV.out]; rfl, (Below.refl _ _).drew⟩
      · have e1 : ((s[k].toNat : Int) == 0) = false := by
          have : s[k].toNat ≠ 0 := fun q => h0 (UInt8.toNat_inj.mp (by simpa using q))
          rw [beq_eq_false_iff_ne]; omega
        have HS := Lib.hid (show ∀ j, (h : j < s.size) → j < k + 1 → s[j] ≠ 0 from fun j h q => by
          by_cases e : j = k
          · subst e; exact h0
          · exact HZ.out j h (by omega))
        clear h0
        go_wp2_with fail
        go_round
        case rel => exact ⟨k + 1, by go_num, by omega, HS.out⟩
        case measure => simp [intOf] <;> omega
    · have hd1 : decide ((k : Int) < (s.size : Int)) = false := decide_eq_false (by omega)
      go_wp2_with fail
      have HV := Lib.hid (zN_end s (fun j h q => HZ.out j h (by omega)))
      go_ret2
      exact ⟨by unfold partA partB; rw [HV.out]; simp; rfl, Below.refl _ _⟩
end Go.Proofs.Ytjnichiblljmjaa
