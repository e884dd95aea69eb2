/- Contracts of Scan.Int, Rest, Fail and End over this translation: what each piece answers, and how the Scan is then. Conditions: texts of at most a million bytes. -/
import Derived.Test.YtagenkofoacajaaDoorSfix
import Derived.Test.YtagenkofoacajaaDoorVget
namespace Go.Proofs.YtagenkofoacajaaDoor
open Go.RowKit Vi

theorem ext_data2 (s : ByteArray) (p : Nat) : (s.extract p s.size).data.toList = s.data.toList.drop p := by
  rw [ByteArray.data_extract, Array.toList_extract]
  simp only [List.extract]
  exact List.take_of_length_le (by simp)




set_option maxHeartbeats 400000 in
theorem fail1_any (L : ByteArray) (er : Int) (b1 : Nat) (w : World) (hc1 : w.cell? ⟨b1, 0, none⟩ = some (.int .i64 er)) :
    Calls Tryd.prog 139 #[.string L, .pointer (some ⟨b1, 0, none⟩)] w fun e w' => e = .returned (.tuple #[.int .i64 0, .int .i64 er]) ∧ w.drew = w' := by
  go_enter Tryd.func139, Tryd.ntmps139
  go_wp2
  go_region
  all_goals
    go_wp2
    go_ret2
    exact ⟨rfl, rfl⟩




set_option maxHeartbeats 800000 in
set_option maxRecDepth 100000 in
theorem fail_yes (w : World) (B : Nat) (S : ByteArray) (q : Nat) (er : Int) (_hS : S.size ≤ 1000000) (hq : q ≤ S.size) (h : Sc w B true S q 0) (hne : (er != 0) = true) (_hne2 : (er == 0) = false) :
    Calls Tryd.prog 135 #[.pointer (some ⟨B, 0, none⟩), .int .i64 er] w fun e w' => e = .returned (.tuple #[]) ∧ Sc w' B true S q er ∧ But B w w' := by
  have hlt := h.lt
  have c0 := h.c0
  have c1 := h.c1
  have c2 := h.c2
  have c3 := h.c3
  have f2 := h.f2
  have f3 := h.f3
  go_enter Tryd.func135, Tryd.ntmps135
  go_wp2
  have hes : (S.extract q S.size).size = S.size - q := by rw [ByteArray.size_extract]; omega
  have hex : (S.extract q S.size).data.toList = S.data.toList.drop q := ext_data2 S q
  have HES := Lib.hid hes
  have HEX := Lib.hid hex
  clear hes hex
  have g2 : 0 ≤ (q : Int) := by omega
  have g3 : (q : Int).toNat = q := by omega
  go_region_with (go_at_call 139; refine (fail1_any _ er w.heap.size _ (by simp)).mono ?_; rintro e w' ⟨rfl, rfl⟩)
  all_goals
    go_wp2
    go_returns
    exact ⟨rfl, ((h.fail er).alloc _).drew.drew, (((But.refl B w).set 3 _).alloc _).drew.drew⟩

set_option maxHeartbeats 800000 in
set_option maxRecDepth 100000 in
theorem fail_zero (w : World) (B : Nat) (S : ByteArray) (q : Nat) (_hS : S.size ≤ 1000000) (hq : q ≤ S.size) (h : Sc w B true S q 0) :
    Calls Tryd.prog 135 #[.pointer (some ⟨B, 0, none⟩), .int .i64 0] w fun e w' => e = .returned (.tuple #[]) ∧ Sc w' B true S q 0 ∧ But B w w' := by
  have hlt := h.lt
  have c0 := h.c0
  have c1 := h.c1
  have c2 := h.c2
  have c3 := h.c3
  have f2 := h.f2
  have f3 := h.f3
  go_enter Tryd.func135, Tryd.ntmps135
  go_wp2
  have hes : (S.extract q S.size).size = S.size - q := by rw [ByteArray.size_extract]; omega
  have hex : (S.extract q S.size).data.toList = S.data.toList.drop q := ext_data2 S q
  have HES := Lib.hid hes
  have HEX := Lib.hid hex
  clear hes hex
  have g2 : 0 ≤ (q : Int) := by omega
  have g3 : (q : Int).toNat = q := by omega
  go_region_with (go_at_call 139; refine (fail1_any _ 0 w.heap.size _ (by simp)).mono ?_; rintro e w' ⟨rfl, rfl⟩)
  all_goals
    go_wp2
    go_returns
    exact ⟨rfl, ((h.to q (by omega)).alloc _).drew.drew, (((But.refl B w).set 2 _).alloc _).drew.drew⟩
end Go.Proofs.YtagenkofoacajaaDoor
