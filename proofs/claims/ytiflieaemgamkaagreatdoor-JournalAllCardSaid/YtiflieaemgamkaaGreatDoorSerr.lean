/- Contracts of a Scan's calls behind an error, and of a Scan that no call made, over this translation. No condition. -/
import Derived.Test.YtiflieaemgamkaaGreatDoorSfix
namespace Go.Proofs.YtiflieaemgamkaaGreatDoor
open Go.RowKit

set_option maxHeartbeats 800000 in
set_option maxRecDepth 100000 in
theorem num_err (w : World) (B : Nat) (made : Bool) (S : ByteArray) (q : Nat) (er : Int) (most : Int) (hsc : Sc w B made S q er) (he : made = false ∨ er ≠ 0) :
    Calls Tryz.prog 204 #[.pointer (some ⟨B, 0, none⟩), .int .i64 most] w fun e w' => e = .returned (.int .i64 0) ∧ Sc w' B made S q er ∧ But B w w' := by
  have hlt := hsc.lt
  have c0 := hsc.c0
  have c3 := hsc.c3
  cases made with
  | false =>
    go_enter Tryz.func204, Tryz.ntmps204
    go_wp2
    go_returns
    exact ⟨rfl, ((hsc).alloc _).alloc _, ((But.refl B w).alloc _).alloc _⟩
  | true =>
    have hne : (er != 0) = true := by simp at he; simpa using he
    have hne2 : (er == 0) = false := by simp at he; simpa using he
    clear he
    go_enter Tryz.func204, Tryz.ntmps204
    go_wp2
    go_returns
    exact ⟨rfl, ((hsc).alloc _).alloc _, ((But.refl B w).alloc _).alloc _⟩

set_option maxHeartbeats 800000 in
set_option maxRecDepth 100000 in
theorem num_nil (w : World) (most : Int) :
    Calls Tryz.prog 204 #[.pointer none, .int .i64 most] w fun e w' => e = .returned (.int .i64 0) ∧ Below w.heap.size w w' := by
  go_enter Tryz.func204, Tryz.ntmps204
  go_wp2
  go_returns
  exact ⟨rfl, ((Below.refl _ w).alloc (by simp) _).alloc (by simp) _⟩



set_option maxHeartbeats 800000 in
set_option maxRecDepth 100000 in
theorem rest_err (w : World) (B : Nat) (made : Bool) (S : ByteArray) (q : Nat) (er : Int) (hsc : Sc w B made S q er) (he : made = false ∨ er ≠ 0) :
    Calls Tryz.prog 225 #[.pointer (some ⟨B, 0, none⟩)] w fun e w' => e = .returned (.string ⟨#[]⟩) ∧ Sc w' B made S q er ∧ But B w w' := by
  have hlt := hsc.lt
  have c0 := hsc.c0
  have c3 := hsc.c3
  cases made with
  | false =>
    go_enter Tryz.func225, Tryz.ntmps225
    go_wp2
    go_returns
    exact ⟨rfl, (hsc).alloc _, (But.refl B w).alloc _⟩
  | true =>
    have hne : (er != 0) = true := by simp at he; simpa using he
    have hne2 : (er == 0) = false := by simp at he; simpa using he
    clear he
    go_enter Tryz.func225, Tryz.ntmps225
    go_wp2
    go_returns
    exact ⟨rfl, (hsc).alloc _, (But.refl B w).alloc _⟩

set_option maxHeartbeats 800000 in
set_option maxRecDepth 100000 in
theorem rest_nil (w : World) :
    Calls Tryz.prog 225 #[.pointer none] w fun e w' => e = .returned (.string ⟨#[]⟩) ∧ Below w.heap.size w w' := by
  go_enter Tryz.func225, Tryz.ntmps225
  go_wp2
  go_returns
  exact ⟨rfl, (Below.refl _ w).alloc (by simp) _⟩



set_option maxHeartbeats 800000 in
set_option maxRecDepth 100000 in
theorem end_err (w : World) (B : Nat) (made : Bool) (S : ByteArray) (q : Nat) (er : Int) (hsc : Sc w B made S q er) (he : made = false ∨ er ≠ 0) :
    Calls Tryz.prog 206 #[.pointer (some ⟨B, 0, none⟩)] w fun e w' => e = .returned (.int .i64 (if made then er else 1)) ∧ Sc w' B made S q er ∧ But B w w' := by
  have hlt := hsc.lt
  have c0 := hsc.c0
  have c3 := hsc.c3
  cases made with
  | false =>
    go_enter Tryz.func206, Tryz.ntmps206
    go_wp2
    go_returns
    exact ⟨rfl, hsc, But.refl B w⟩
  | true =>
    have hne : (er != 0) = true := by simp at he; simpa using he
    have hne2 : (er == 0) = false := by simp at he; simpa using he
    clear he
    go_enter Tryz.func206, Tryz.ntmps206
    go_wp2
    go_returns
    exact ⟨rfl, hsc, But.refl B w⟩

set_option maxHeartbeats 800000 in
set_option maxRecDepth 100000 in
theorem end_nil (w : World) :
    Calls Tryz.prog 206 #[.pointer none] w fun e w' => e = .returned (.int .i64 1) ∧ Below w.heap.size w w' := by
  go_enter Tryz.func206, Tryz.ntmps206
  go_wp2
  go_returns
  exact ⟨rfl, Below.refl _ w⟩



set_option maxHeartbeats 800000 in
set_option maxRecDepth 100000 in
theorem text_err (w : World) (B : Nat) (made : Bool) (S : ByteArray) (q : Nat) (er most : Int) (hsc : Sc w B made S q er) (he : made = false ∨ er ≠ 0) :
    Calls Tryz.prog 205 #[.pointer (some ⟨B, 0, none⟩), .int .i64 most] w fun e w' => e = .returned (.string ⟨#[]⟩) ∧ Sc w' B made S q er ∧ But B w w' := by
  go_enter Tryz.func205, Tryz.ntmps205
  go_wp2_with fail
  refine (num_err w B made S q er most hsc he).mono ?_
  rintro e w1 ⟨rfl, hs1, hb1⟩
  go_wp2_with fail
  refine (fix_err w1 B made S q er 0 hs1 he).mono ?_
  rintro e w2 ⟨rfl, hs2, hb2⟩
  go_wp2_with fail
  go_ret
  exact ⟨rfl, hs2, hb1.trans hb2⟩

set_option maxHeartbeats 800000 in
set_option maxRecDepth 100000 in
theorem text_nil (w : World) (most : Int) :
    Calls Tryz.prog 205 #[.pointer none, .int .i64 most] w fun e w' => e = .returned (.string ⟨#[]⟩) ∧ Below w.heap.size w w' := by
  go_enter Tryz.func205, Tryz.ntmps205
  go_wp2_with fail
  refine (num_nil w most).mono ?_
  rintro e w1 ⟨rfl, hb1⟩
  go_wp2_with fail
  refine (fix_nil w1 0).mono ?_
  rintro e w2 ⟨rfl, hb2⟩
  go_wp2_with fail
  go_ret
  exact ⟨rfl, hb1.trans (hb2.mono hb1.size)⟩
end Go.Proofs.YtiflieaemgamkaaGreatDoor
