/- The document's own readings of layer 4 over this translation: each is the plain functions'. Condition: texts of at most a million bytes. -/
import Derived.Test.YtagenkofoacajaaGreatDoorSp
import Derived.Test.YtagenkofoacajaaGreatDoorVrget
import Derived.Handy
import Derived.Outline
import Derived.Deep.RegionWith
import Derived.RegionTactic
import Derived.Deep.QuietTactic
import Derived.BigQuiet
import Derived.Deep.RegionHeld3
namespace Go.Proofs.YtagenkofoacajaaGreatDoor
open Go.RowKit Vi

/-- a Scan of the document's, by value -/
def sv (S : ByteArray) (q : Nat) (er : Int) : Value := .agg #[.string S, .int .i64 (q : Int), .int .i64 er]
theorem ret_pair {a b c d : Value} (h1 : a = c) (h2 : b = d) : Ending.returned (.tuple #[a, b]) = .returned (.tuple #[c, d]) := by rw [h1, h2]
theorem qcell {W w1 : World} (hb : Below W.heap.size W w1) : (∀ b o, b < W.heap.size → w1.cell? ⟨b, o, none⟩ = W.cell? ⟨b, o, none⟩) ∧ (∀ b o, b < W.heap.size → w1.frozen? ⟨b, o, none⟩ = W.frozen? ⟨b, o, none⟩) :=
  ⟨fun b o h => hb.cell (p := ⟨b, o, none⟩) h, fun b o h => hb.frozen (p := ⟨b, o, none⟩) h⟩

theorem box_at {w0 w1 : World} {cs : Array Value} {t : TypeId} (hb : Below (w0.alloc (.cells cs t)).heap.size (w0.alloc (.cells cs t)) w1) {n : Nat} (hn : w0.heap.size = n) (k : Nat) {v : Value} (hk : cs[k]? = some v) : w1.cell? ⟨n, k, none⟩ = some v := by
  subst hn
  rw [hb.cell (p := ⟨w0.heap.size, k, none⟩) (by simp)]
  have e := (MapKept.heap_alloc w0 (.cells cs t)).1
  simp only [World.cell?, e]
  exact hk
theorem box_free {w0 w1 : World} {cs : Array Value} {t : TypeId} (hb : Below (w0.alloc (.cells cs t)).heap.size (w0.alloc (.cells cs t)) w1) {n : Nat} (hn : w0.heap.size = n) (k : Nat) : w1.frozen? ⟨n, k, none⟩ = false := by
  subst hn
  rw [hb.frozen (p := ⟨w0.heap.size, k, none⟩) (by simp)]
  have e := (MapKept.heap_alloc w0 (.cells cs t)).1
  simp only [World.frozen?, e]
  simp
/-- the same of the block ahead of it -/
theorem box_at2 {w0 w1 : World} {cs ds : Array Value} {t u : TypeId} (hb : Below ((w0.alloc (.cells cs t)).alloc (.cells ds u)).heap.size ((w0.alloc (.cells cs t)).alloc (.cells ds u)) w1) (k : Nat) {v : Value} (hk : cs[k]? = some v) : w1.cell? ⟨w0.heap.size, k, none⟩ = some v :=
  box_at (((Below.refl _ (w0.alloc (.cells cs t))).alloc (Nat.le_refl _) (.cells ds u)).trans (hb.mono (by simp))) rfl k hk
theorem box_free2 {w0 w1 : World} {cs ds : Array Value} {t u : TypeId} (hb : Below ((w0.alloc (.cells cs t)).alloc (.cells ds u)).heap.size ((w0.alloc (.cells cs t)).alloc (.cells ds u)) w1) (k : Nat) : w1.frozen? ⟨w0.heap.size, k, none⟩ = false :=
  box_free (((Below.refl _ (w0.alloc (.cells cs t))).alloc (Nat.le_refl _) (.cells ds u)).trans (hb.mono (by simp))) rfl k
theorem addr_ne (b i j : Nat) (h : i ≠ j) : (⟨b, i, none⟩ : Addr) ≠ ⟨b, j, none⟩ := fun e => h (by cases e; rfl)
theorem read3 {w : World} {b : Nat} {x y z : Value} (d0 : w.cell? ⟨b, 0, none⟩ = some x) (d1 : w.cell? ⟨b, 1, none⟩ = some y) (d2 : w.cell? ⟨b, 2, none⟩ = some z) (x' y' z' : Value) :
    (w.setCell ⟨b, 0, none⟩ x').cell? ⟨b, 0, none⟩ = some x' ∧ ((w.setCell ⟨b, 0, none⟩ x').setCell ⟨b, 1, none⟩ y').cell? ⟨b, 1, none⟩ = some y' ∧
    (((w.setCell ⟨b, 0, none⟩ x').setCell ⟨b, 1, none⟩ y').setCell ⟨b, 2, none⟩ z').cell? ⟨b, 2, none⟩ = some z' := by
  refine ⟨World.cell?_setCell_same _ _ _ d0, World.cell?_setCell_same _ _ _ (u := y) ?_, World.cell?_setCell_same _ _ _ (u := z) ?_⟩
  · rw [World.cell?_setCell_other _ _ _ _ (addr_ne _ _ _ (by decide))]; exact d1
  · rw [World.cell?_setCell_other _ _ _ _ (addr_ne _ _ _ (by decide)), World.cell?_setCell_other _ _ _ _ (addr_ne _ _ _ (by decide))]; exact d2
theorem size_two {w w1 : World} {a b : Obj} (hb : Below ((w.alloc a).alloc b).heap.size ((w.alloc a).alloc b) w1) : w.heap.size + 1 + 1 ≤ w1.heap.size := by
  have := hb.size; simpa using this
theorem below_two {w w1 : World} {a b : Obj} (hb : Below ((w.alloc a).alloc b).heap.size ((w.alloc a).alloc b) w1) : Below w.heap.size w w1 :=
  (((Below.refl _ w).alloc (Nat.le_refl _) a).alloc (by simp) b).trans (hb.mono (by simp; omega))



theorem far_cell {w : World} {b c i j : Nat} {x v : Value} (h : w.cell? ⟨c, j, none⟩ = some v) (hne : b ≠ c) : (w.setCell ⟨b, i, none⟩ x).cell? ⟨c, j, none⟩ = some v := by
  rw [World.cell?_setCell_other _ _ _ _ (fun e => hne (by cases e; rfl))]; exact h
theorem far_free {w : World} {b c i j : Nat} {x : Value} (h : w.frozen? ⟨c, j, none⟩ = false) : (w.setCell ⟨b, i, none⟩ x).frozen? ⟨c, j, none⟩ = false := by
  rw [World.frozen?_setCell]; exact h
theorem set_same {w : World} {b i : Nat} {x v : Value} (h : w.cell? ⟨b, i, none⟩ = some v) : (w.setCell ⟨b, i, none⟩ x).cell? ⟨b, i, none⟩ = some x := World.cell?_setCell_same _ _ _ h




theorem rest_fix (S : ByteArray) (q : Nat) (er : Int) (hq : q ≤ S.size) : Rd.fix S q er ((S.size : Int) - q) = Rd.rest S q er := by
  unfold Rd.fix Rd.rest
  by_cases he : er = 0
  · subst he
    rw [if_neg (by simp), if_neg (by omega), if_neg (by simp)]
    have e1 : ((S.size : Int) - q).toNat = S.size - q := by omega
    rw [e1, ByteArray.extract_extract, Nat.add_zero, Nat.min_eq_left (by omega), show q + (S.size - q) = S.size by omega]
  · rw [if_pos he, if_pos he]

end Go.Proofs.YtagenkofoacajaaGreatDoor
