/- Contracts of Scan.Int, Rest, Fail and End over this translation: what each piece answers, and how the Scan is then. Conditions: texts of at most a million bytes. -/
import Derived.Test.YtiflieaemgamkaaGreatDoorSfix
import Derived.Test.YtiflieaemgamkaaGreatDoorVget
namespace Go.Proofs.YtiflieaemgamkaaGreatDoor
open Go.RowKit Vi

theorem ext_data2 (s : ByteArray) (p : Nat) : (s.extract p s.size).data.toList = s.data.toList.drop p := by
  rw [ByteArray.data_extract, Array.toList_extract]
  simp only [List.extract]
  exact List.take_of_length_le (by simp)


set_option maxHeartbeats 400000 in
theorem rest1_any (L : ByteArray) (b2 : Nat) (s0 : Value) (w : World) (_hL : L.size ≤ maxLen) (hc2 : w.cell? ⟨b2, 0, none⟩ = some s0) (hf2 : w.frozen? ⟨b2, 0, none⟩ = false) :
    Calls Tryz.prog 238 #[.string L, .pointer (some ⟨b2, 0, none⟩)] w fun e w' => e = .returned (.tuple #[.int .i64 (L.size : Int), .int .i64 0]) ∧ w.setCell ⟨b2, 0, none⟩ (.string L) = w' := by
  unfold maxLen at _hL
  go_enter Tryz.func238, Tryz.ntmps238
  go_wp2
  go_ret2
  exact ⟨rfl, rfl⟩

set_option maxHeartbeats 400000 in
theorem end1_yes (L : ByteArray) (w : World) (h : L.size = 0) :
    Calls Tryz.prog 232 #[.string L] w fun e w' => e = .returned (.tuple #[.int .i64 0, .int .i64 0]) ∧ w = w' := by
  have hL : L = ⟨#[]⟩ := ByteArray.size_eq_zero_iff.1 h
  subst hL
  go_enter Tryz.func232, Tryz.ntmps232
  go_wp2
  go_ret2
  exact ⟨rfl, rfl⟩
set_option maxHeartbeats 400000 in
theorem end1_no (L : ByteArray) (w : World) (h : 0 < L.size) :
    Calls Tryz.prog 232 #[.string L] w fun e w' => e = .returned (.tuple #[.int .i64 0, .int .i64 3]) ∧ w = w' := by
  have h1 : L.toList ≠ [] := by
    rw [ByteArray.toList_eq]
    intro e
    have : L.size = 0 := by have := congrArg List.length e; simpa using this
    omega
  have h2 : L.toList.isEmpty = false := by simpa using h1
  have h3 : (!L.toList.isEmpty) = true := by rw [h2]; rfl
  go_enter Tryz.func232, Tryz.ntmps232
  go_wp2
  go_ret2
  exact ⟨rfl, rfl⟩




set_option maxHeartbeats 800000 in
set_option maxRecDepth 100000 in
theorem rest_yes (w : World) (B : Nat) (S : ByteArray) (q : Nat) (hS : S.size ≤ 1000000) (hq : q ≤ S.size) (h : Sc w B true S q 0) :
    Calls Tryz.prog 225 #[.pointer (some ⟨B, 0, none⟩)] w fun e w' => e = .returned (.string (S.extract q S.size)) ∧ Sc w' B true S S.size 0 ∧ But B w w' := by
  have hlt := h.lt
  have c0 := h.c0
  have c1 := h.c1
  have c2 := h.c2
  have c3 := h.c3
  have f2 := h.f2
  have f3 := h.f3
  go_enter Tryz.func225, Tryz.ntmps225
  go_wp2
  have hes : (S.extract q S.size).size = S.size - q := by rw [ByteArray.size_extract]; omega
  have hex : (S.extract q S.size).data.toList = S.data.toList.drop q := ext_data2 S q
  have HES := Lib.hid hes
  have HEX := Lib.hid hex
  clear hes hex
  have g2 : 0 ≤ (q : Int) := by omega
  have g3 : (q : Int).toNat = q := by omega
  go_region_with (go_at_call 238; refine (rest1_any _ w.heap.size (.string ⟨#[]⟩) _ (by rw [HES.out]; unfold maxLen; omega) (by simp) (by simp)).mono ?_; rw [HES.out]; rintro e w' ⟨rfl, rfl⟩)
  all_goals
    go_wp2
    go_ret
    exact ⟨rfl, ((h.to S.size (by omega)).alloc _).drew, (((But.refl B w).set 2 _).alloc _).drew⟩


end Go.Proofs.YtiflieaemgamkaaGreatDoor
