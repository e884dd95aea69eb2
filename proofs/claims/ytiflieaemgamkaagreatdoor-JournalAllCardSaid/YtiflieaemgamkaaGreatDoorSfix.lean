/- The contract of Scan.Fix over this translation: so many bytes are read, or not, and the Scan is moved on, or fails. -/
import Derived.Test.YtiflieaemgamkaaGreatDoorSc
import Derived.Deep.RegionWith
import Derived.RegionTactic
namespace Go.Proofs.YtiflieaemgamkaaGreatDoor
open Go.RowKit

set_option maxHeartbeats 400000 in
theorem fix1_no (L : ByteArray) (n : Int) (b1 b2 : Nat) (w : World) (hc1 : w.cell? ⟨b1, 0, none⟩ = some (.int .i64 n)) (h : n < 0 ∨ (L.size : Int) < n) :
    Calls Tryz.prog 229 #[.string L, .pointer (some ⟨b1, 0, none⟩), .pointer (some ⟨b2, 0, none⟩)] w fun e w' => e = .returned (.tuple #[.int .i64 0, .int .i64 3]) ∧ w = w' := by
  by_cases h0 : n < 0
  · clear h
    go_enter Tryz.func229, Tryz.ntmps229
    go_wp2
    go_ret2
    exact ⟨rfl, rfl⟩
  · have h2 : (L.size : Int) < n := by omega
    clear h
    go_enter Tryz.func229, Tryz.ntmps229
    go_wp2
    go_ret2
    exact ⟨rfl, rfl⟩

set_option maxHeartbeats 400000 in
theorem fix1_yes (L : ByteArray) (n : Nat) (b1 b2 : Nat) (s0 : Value) (w : World) (hc1 : w.cell? ⟨b1, 0, none⟩ = some (.int .i64 (n : Int))) (hc2 : w.cell? ⟨b2, 0, none⟩ = some s0) (hf2 : w.frozen? ⟨b2, 0, none⟩ = false)
    (hne : ¬ b2 = b1) (h : (n : Int) ≤ L.size) :
    Calls Tryz.prog 229 #[.string L, .pointer (some ⟨b1, 0, none⟩), .pointer (some ⟨b2, 0, none⟩)] w fun e w' => e = .returned (.tuple #[.int .i64 (n : Int), .int .i64 0]) ∧ w.setCell ⟨b2, 0, none⟩ (.string (L.extract 0 n)) = w' := by
  have hc1' : (w.setCell ⟨b2, 0, none⟩ (.string (L.extract 0 n))).cell? ⟨b1, 0, none⟩ = some (.int .i64 (n : Int)) := by
    rw [World.cell?_setCell_other _ _ _ _ (by simp only [ne_eq, Addr.mk.injEq, and_true]; exact hne)]; exact hc1
  go_enter Tryz.func229, Tryz.ntmps229
  go_wp2
  go_ret2
  exact ⟨rfl, rfl⟩

set_option maxHeartbeats 800000 in
set_option maxRecDepth 100000 in
theorem fix_yes (w : World) (B : Nat) (S : ByteArray) (q n : Nat) (_hS : S.size ≤ 1000000) (hq : q ≤ S.size) (h : Sc w B true S q 0) (hn : n ≤ S.size - q) :
    Calls Tryz.prog 202 #[.pointer (some ⟨B, 0, none⟩), .int .i64 (n : Int)] w fun e w' => e = .returned (.string ((S.extract q S.size).extract 0 n)) ∧ Sc w' B true S (q + n) 0 ∧ But B w w' := by
  have hlt := h.lt
  have c0 := h.c0
  have c1 := h.c1
  have c2 := h.c2
  have c3 := h.c3
  have f2 := h.f2
  go_enter Tryz.func202, Tryz.ntmps202
  go_wp2
  have hes : (S.extract q S.size).size = S.size - q := by rw [ByteArray.size_extract]; omega
  have HES := Lib.hid hes
  clear hes
  have g2 : 0 ≤ (q : Int) := by omega
  have g3 : (q : Int).toNat = q := by omega
  go_region_with (go_at_call 229; refine (fix1_yes _ n w.heap.size (w.heap.size + 1) (.string ⟨#[]⟩) _ (by simp) (by simp) (by simp) (by omega) (by rw [HES.out]; omega)).mono ?_; rintro e w' ⟨rfl, rfl⟩)
  all_goals
    go_wp2
    go_ret
    exact ⟨rfl, (((h.to (q + n) (by omega)).alloc _).alloc _).drew, ((((But.refl B w).set 2 _).alloc _).alloc _).drew⟩

set_option maxHeartbeats 800000 in
set_option maxRecDepth 100000 in
theorem fix_no (w : World) (B : Nat) (S : ByteArray) (q : Nat) (n : Int) (_hS : S.size ≤ 1000000) (hq : q ≤ S.size) (h : Sc w B true S q 0) (hn : n < 0 ∨ (S.size : Int) - q < n) :
    Calls Tryz.prog 202 #[.pointer (some ⟨B, 0, none⟩), .int .i64 n] w fun e w' => e = .returned (.string ⟨#[]⟩) ∧ Sc w' B true S q 3 ∧ But B w w' := by
  have hlt := h.lt
  have c0 := h.c0
  have c1 := h.c1
  have c2 := h.c2
  have c3 := h.c3
  have f3 := h.f3
  have HN := Lib.hid hn
  clear hn
  go_enter Tryz.func202, Tryz.ntmps202
  go_wp2
  have hes : (S.extract q S.size).size = S.size - q := by rw [ByteArray.size_extract]; omega
  have HES := Lib.hid hes
  clear hes
  have g2 : 0 ≤ (q : Int) := by omega
  have g3 : (q : Int).toNat = q := by omega
  go_region_with (go_at_call 229; refine (fix1_no _ n w.heap.size (w.heap.size + 1) _ (by simp) (by rw [HES.out]; have := HN.out; omega)).mono ?_; rintro e w' ⟨rfl, rfl⟩)
  all_goals
    go_wp2
    go_ret
    exact ⟨rfl, (((h.fail 3).alloc _).alloc _).drew, ((((But.refl B w).set 3 _).alloc _).alloc _).drew⟩

set_option maxHeartbeats 800000 in
set_option maxRecDepth 100000 in
theorem fix_err (w : World) (B : Nat) (made : Bool) (S : ByteArray) (q : Nat) (er n : Int) (h : Sc w B made S q er) (he : made = false ∨ er ≠ 0) :
    Calls Tryz.prog 202 #[.pointer (some ⟨B, 0, none⟩), .int .i64 n] w fun e w' => e = .returned (.string ⟨#[]⟩) ∧ Sc w' B made S q er ∧ But B w w' := by
  have hlt := h.lt
  have c0 := h.c0
  have c3 := h.c3
  cases made with
  | false =>
    go_enter Tryz.func202, Tryz.ntmps202
    go_wp2
    go_ret
    exact ⟨rfl, (h.alloc _).alloc _, ((But.refl B w).alloc _).alloc _⟩
  | true =>
    have hne : (er != 0) = true := by simp at he; simpa using he
    have hne2 : (er == 0) = false := by simp at he; simpa using he
    clear he
    go_enter Tryz.func202, Tryz.ntmps202
    go_wp2
    go_ret
    exact ⟨rfl, (h.alloc _).alloc _, ((But.refl B w).alloc _).alloc _⟩

set_option maxHeartbeats 400000 in
theorem fix_nil (w : World) (n : Int) :
    Calls Tryz.prog 202 #[.pointer none, .int .i64 n] w fun e w' => e = .returned (.string ⟨#[]⟩) ∧ Below w.heap.size w w' := by
  go_enter Tryz.func202, Tryz.ntmps202
  go_wp2
  go_ret
  exact ⟨rfl, ((Below.refl _ w).alloc (Nat.le_refl _) _).alloc (by simp) _⟩
end Go.Proofs.YtiflieaemgamkaaGreatDoor
