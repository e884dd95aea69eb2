/- What a Scan is in memory, and what its first two calls answer, over this translation. -/
import Derived.Test.YtiflieaemgamkaaGreatDoorProg
import Derived.WalkKit
import Derived.Lib.Hide
import Derived.WalkSpells
import Derived.WalkLawsBesides
import Derived.Handy
namespace Go.Proofs.YtiflieaemgamkaaGreatDoor
open Go.RowKit

/-- a Scan's block -/
def ScObj (made : Bool) (S : ByteArray) (q : Nat) (er : Int) : Obj := .cells #[.bool made, .string S, .int .i64 (q : Int), .int .i64 er] 283 (0, 0)
def Sc (w : World) (B : Nat) (made : Bool) (S : ByteArray) (q : Nat) (er : Int) : Prop := w.heap[B]? = some (ScObj made S q er)

theorem Sc.lt {w : World} {B : Nat} {made : Bool} {S : ByteArray} {q : Nat} {er : Int} (h : Sc w B made S q er) : B < w.heap.size := lt_of_block h
theorem Sc.c0 {w : World} {B : Nat} {made : Bool} {S : ByteArray} {q : Nat} {er : Int} (h : Sc w B made S q er) : w.cell? ⟨B, 0, none⟩ = some (.bool made) := by
  unfold Sc ScObj at h; simp [World.cell?, h]
theorem Sc.c1 {w : World} {B : Nat} {made : Bool} {S : ByteArray} {q : Nat} {er : Int} (h : Sc w B made S q er) : w.cell? ⟨B, 1, none⟩ = some (.string S) := by
  unfold Sc ScObj at h; simp [World.cell?, h]
theorem Sc.c2 {w : World} {B : Nat} {made : Bool} {S : ByteArray} {q : Nat} {er : Int} (h : Sc w B made S q er) : w.cell? ⟨B, 2, none⟩ = some (.int .i64 (q : Int)) := by
  unfold Sc ScObj at h; simp [World.cell?, h]
theorem Sc.c3 {w : World} {B : Nat} {made : Bool} {S : ByteArray} {q : Nat} {er : Int} (h : Sc w B made S q er) : w.cell? ⟨B, 3, none⟩ = some (.int .i64 er) := by
  unfold Sc ScObj at h; simp [World.cell?, h]
theorem Sc.f2 {w : World} {B : Nat} {made : Bool} {S : ByteArray} {q : Nat} {er : Int} (h : Sc w B made S q er) : w.frozen? ⟨B, 2, none⟩ = false := by
  unfold Sc ScObj at h; simp [World.frozen?, h]
theorem Sc.f3 {w : World} {B : Nat} {made : Bool} {S : ByteArray} {q : Nat} {er : Int} (h : Sc w B made S q er) : w.frozen? ⟨B, 3, none⟩ = false := by
  unfold Sc ScObj at h; simp [World.frozen?, h]
theorem heap_setCell_at {w : World} {b i : Nat} {u : Value} {t : TypeId} {cs : Array Value} {fr : Nat × Nat} (h : w.heap[b]? = some (.cells cs t fr)) : (w.setCell ⟨b, i, none⟩ u).heap[b]? = some (.cells (cs.setIfInBounds i u) t fr) := by
  have hlt := lt_of_block h
  have h' : w.heap[b] = .cells cs t fr := by simpa [Array.getElem?_eq_getElem hlt] using h
  show (w.heap.modify b _)[b]? = _
  rw [Array.getElem?_eq_getElem (by simpa using hlt), Array.getElem_modify_self, h']
  rfl
theorem Sc.move {w : World} {B : Nat} {made : Bool} {S : ByteArray} {q : Nat} {er : Int} (h : Sc w B made S q er) (q' : Nat) : Sc (w.setCell ⟨B, 2, none⟩ (.int .i64 (q' : Int))) B made S q' er := by
  unfold Sc ScObj at h ⊢; rw [heap_setCell_at h]; rfl
theorem Sc.fail {w : World} {B : Nat} {made : Bool} {S : ByteArray} {q : Nat} {er : Int} (h : Sc w B made S q er) (er' : Int) : Sc (w.setCell ⟨B, 3, none⟩ (.int .i64 er')) B made S q er' := by
  unfold Sc ScObj at h ⊢; rw [heap_setCell_at h]; rfl
theorem Sc.to {w : World} {B : Nat} {made : Bool} {S : ByteArray} {q : Nat} {er : Int} (h : Sc w B made S q er) (q' : Nat) {v : Int} (hv : v = (q' : Int)) : Sc (w.setCell ⟨B, 2, none⟩ (.int .i64 v)) B made S q' er := by
  subst hv; exact h.move q'
theorem Sc.alloc {w : World} {B : Nat} {made : Bool} {S : ByteArray} {q : Nat} {er : Int} (h : Sc w B made S q er) (o : Obj) : Sc (w.alloc o) B made S q er := by
  unfold Sc at h ⊢; rw [Below.heap_alloc _ _ _ (lt_of_block h)]; exact h
theorem Sc.drew {w : World} {B : Nat} {made : Bool} {S : ByteArray} {q : Nat} {er : Int} (h : Sc w B made S q er) : Sc w.drew B made S q er := h
theorem Sc.kept {w w' : World} {B : Nat} {made : Bool} {S : ByteArray} {q : Nat} {er : Int} (h : Sc w B made S q er) (hb : w'.heap[B]? = w.heap[B]?) : Sc w' B made S q er := by
  unfold Sc at h ⊢; rw [hb]; exact h

/-- only block B of what was there may have turned -/
def But (B : Nat) (w w' : World) : Prop := w.grownBy w' (some B)
theorem But.refl (B : Nat) (w : World) : But B w w := World.grownBy.refl w _
theorem But.trans {B : Nat} {a b c : World} (h : But B a b) (k : But B b c) : But B a c :=
  ⟨k.os.trans h.os, k.tape.trans h.tape, k.output.trans h.output, Nat.le_trans h.size k.size, fun i hi hne => (k.block i (Nat.lt_of_lt_of_le hi h.size) hne).trans (h.block i hi hne)⟩
theorem But.of_below {B : Nat} {w w' : World} (h : Below w.heap.size w w') : But B w w' := ⟨h.os, h.tape, h.output, h.size, fun k hk _ => h.block k hk⟩
theorem But.alloc {B : Nat} {a w : World} (h : But B a w) (o : Obj) : But B a (w.alloc o) := h.trans (World.grownBy_alloc w o _)
theorem But.drew {B : Nat} {a w : World} (h : But B a w) : But B a w.drew := ⟨h.os, h.tape, h.output, h.size, h.block⟩
theorem But.set {B : Nat} {a w : World} (h : But B a w) (i : Nat) (u : Value) : But B a (w.setCell ⟨B, i, none⟩ u) :=
  h.trans ⟨rfl, rfl, rfl, by simp [World.setCell], fun k _ hne => Below.heap_setCell _ _ _ _ (fun e => hne (by rw [e]))⟩
theorem But.setNew {B : Nat} {a w : World} (h : But B a w) {b : Nat} (hb : a.heap.size ≤ b) (i : Nat) (u : Value) : But B a (w.setCell ⟨b, i, none⟩ u) :=
  ⟨h.os, h.tape, h.output, by simpa [World.setCell] using h.size, fun k hk hne => (Below.heap_setCell _ _ _ _ (fun e => by simp at e; omega)).trans (h.block k hk hne)⟩
theorem But.below {B n : Nat} {a w w' : World} (h : Below n a w) (k : But B w w') (hn : n ≤ B) (hs : n ≤ w.heap.size) : Below n a w' :=
  h.grown k hs (fun j hj => by cases hj; exact hn)

set_option maxHeartbeats 400000 in
theorem err_any (w : World) (B : Nat) (made : Bool) (S : ByteArray) (q : Nat) (er : Int) (h : Sc w B made S q er) :
    Calls Tryz.prog 226 #[.pointer (some ⟨B, 0, none⟩)] w fun e w' => e = .returned (.int .i64 (if made then er else 1)) ∧ w = w' := by
  have c0 := h.c0
  have c3 := h.c3
  cases made <;>
  · go_enter Tryz.func226, Tryz.ntmps226
    go_wp2
    go_ret
    exact ⟨rfl, rfl⟩
theorem err_nil (w : World) :
    Calls Tryz.prog 226 #[.pointer none] w fun e w' => e = .returned (.int .i64 1) ∧ w = w' := by
  go_enter Tryz.func226, Tryz.ntmps226
  go_wp2
  go_ret
  exact ⟨rfl, rfl⟩
set_option maxHeartbeats 400000 in
theorem new_any (S : ByteArray) (w : World) :
    Calls Tryz.prog 201 #[.string S] w fun e w' => e = .returned (.pointer (some ⟨w.heap.size, 0, none⟩)) ∧ Sc w' w.heap.size true S 0 0 ∧ Below w.heap.size w w' := by
  go_enter Tryz.func201, Tryz.ntmps201
  go_wp2
  go_ret
  exact ⟨rfl, heap_alloc_new _ _, (Below.refl _ _).alloc (Nat.le_refl _) _⟩
end Go.Proofs.YtiflieaemgamkaaGreatDoor
