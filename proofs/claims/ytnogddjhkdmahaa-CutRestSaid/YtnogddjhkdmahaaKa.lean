/- Sums that roll, as blocks of memory; the contracts of roll's Feed and Sum over this translation. Condition: fewer than 2 to the 60th bytes were fed. -/
import Derived.Test.YtnogddjhkdmahaaKp
import Derived.Test.YtnogddjhkdmahaaProg
import Derived.Lib.Hide
import Derived.Below
import Derived.Laws.Rows
import Derived.Laws.CopyOwn
import Derived.Laws.BitsLemmas
import Derived.RegionTactic
import Derived.BigRegion
import Derived.Handy
import Derived.IntWalk
namespace Go.Proofs.Ytnogddjhkdmahaa
open Go.RowKit Rm

def u32k (x : Nat) : Value := .int .u32 (x : Int)
def rcs (r : List Nat) (nx s : Nat) : List Value := r.map u32k ++ [.int .i64 (nx : Int), .int .u32 (s : Int)]
/-- a sum in the block B, behind these bytes -/
def RC (w : World) (B : Nat) (l : List UInt8) : Prop := ∃ r, Ring l r ∧ w.heap[B]? = some (.cells (rcs r (l.length % 8) (rsum l)).toArray 26 (0, 0))
/-- only block B of what was there may have turned -/
def OnB (B : Nat) (w w' : World) : Prop := w.grownBy w' (some B)
theorem OnB.refl (B : Nat) (w : World) : OnB B w w := World.grownBy.refl w _
theorem OnB.trans {B : Nat} {a b c : World} (h : OnB B a b) (k : OnB B b c) : OnB B a c :=
  ⟨k.os.trans h.os, k.tape.trans h.tape, k.output.trans h.output, Nat.le_trans h.size k.size, fun i hi hne => (k.block i (Nat.lt_of_lt_of_le hi h.size) hne).trans (h.block i hi hne)⟩
theorem OnB.of_below {B : Nat} {w w' : World} (h : Below w.heap.size w w') : OnB B w w' := ⟨h.os, h.tape, h.output, h.size, fun k hk _ => h.block k hk⟩
theorem OnB.alloc {B : Nat} {a w : World} (h : OnB B a w) (o : Obj) : OnB B a (w.alloc o) := h.trans (World.grownBy_alloc w o _)
theorem OnB.drew {B : Nat} {a w : World} (h : OnB B a w) : OnB B a w.drew := ⟨h.os, h.tape, h.output, h.size, h.block⟩
theorem OnB.set {B : Nat} {a w : World} (h : OnB B a w) (i : Nat) (u : Value) : OnB B a (w.setCell ⟨B, i, none⟩ u) :=
  h.trans ⟨rfl, rfl, rfl, by simp [World.setCell], fun k _ hne => Below.heap_setCell _ _ _ _ (fun e => hne (by rw [e]))⟩
theorem OnB.below {B n : Nat} {a w w' : World} (h : Below n a w) (k : OnB B w w') (hn : n ≤ B) (hs : n ≤ w.heap.size) : Below n a w' :=
  h.grown k hs (fun j hj => by cases hj; exact hn)

theorem rcs_ring (r : List Nat) (nx s j : Nat) (hl : r.length = 8) (hj : j < 8) : (rcs r nx s)[j]? = some (.int .u32 (r.getD j 0 : Int)) := by
  unfold rcs
  rw [List.getElem?_append_left (by simp [hl]; omega), List.getElem?_map, List.getD_eq_getElem?_getD, List.getElem?_eq_getElem (by omega)]
  rfl
theorem rcs_next (r : List Nat) (nx s : Nat) (hl : r.length = 8) : (rcs r nx s)[8]? = some (.int .i64 (nx : Int)) := by
  unfold rcs
  rw [List.getElem?_append_right (by simp [hl])]
  simp [hl]
theorem rcs_sum (r : List Nat) (nx s : Nat) (hl : r.length = 8) : (rcs r nx s)[9]? = some (.int .u32 (s : Int)) := by
  unfold rcs
  rw [List.getElem?_append_right (by simp [hl])]
  simp [hl]
theorem rcs_set (r : List Nat) (nx s j x nx2 s2 : Nat) (hl : r.length = 8) (hj : j < 8) : (((rcs r nx s).set 9 (.int .u32 (s2 : Int))).set j (.int .u32 (x : Int))).set 8 (.int .i64 (nx2 : Int)) = rcs (r.set j x) nx2 s2 := by
  unfold rcs
  rw [List.set_append_right _ _ (by simp [hl]), List.set_append_left _ _ (by simp [hl]; omega), List.set_append_right _ _ (by simp [hl]), List.map_set]
  simp [hl, u32k]
theorem blk_lt {w : World} {B : Nat} {o : Obj} (h : w.heap[B]? = some o) : B < w.heap.size := by
  rcases Nat.lt_or_ge B w.heap.size with g | g
  · exact g
  · rw [Array.getElem?_eq_none g] at h
    cases h
theorem RC.lt {w : World} {B : Nat} {l : List UInt8} (h : RC w B l) : B < w.heap.size := by
  obtain ⟨r, _, h2⟩ := h
  exact blk_lt h2
theorem RC.kept {w w' : World} {B : Nat} {l : List UInt8} (h : RC w B l) (e : w'.heap[B]? = w.heap[B]?) : RC w' B l := by
  obtain ⟨r, h1, h2⟩ := h
  exact ⟨r, h1, e.trans h2⟩
theorem RC.later {w w' : World} {B : Nat} {l : List UInt8} (h : RC w B l) (hb : Below w.heap.size w w') : RC w' B l := h.kept (hb.block B h.lt)
theorem RC.start (w : World) : RC (w.alloc (.cells (rcs (List.replicate 8 0) 0 0).toArray 26)) w.heap.size [] := ⟨_, ring_nil, heap_alloc_new w _⟩
theorem RC.sum {w : World} {B : Nat} {l : List UInt8} (h : RC w B l) : w.cell? ⟨B, 9, none⟩ = some (.int .u32 (rsum l : Int)) := by
  obtain ⟨r, h1, h2⟩ := h
  rw [cell_of_row _ _ _ _ _ _ h2]
  simpa using rcs_sum r _ _ h1.1
theorem fed {w : World} {B : Nat} {l : List UInt8} {c : UInt8} {r : List Nat} (h1 : Ring l r) (h2 : w.heap[B]? = some (.cells (rcs r (l.length % 8) (rsum l)).toArray 26 (0, 0))) (nx : Nat) (hnx : nx = l.length % 8) (a b d : Int)
    (ha : a = (rsum (l ++ [c]) : Int)) (hb : b = ((c.toNat + 1 : Nat) : Int)) (hd : d = (((nx + 1) % 8 : Nat) : Int)) :
    RC (((w.setCell ⟨B, 9, none⟩ (.int .u32 a)).setCell ⟨B, nx, none⟩ (.int .u32 b)).setCell ⟨B, 8, none⟩ (.int .i64 d)) B (l ++ [c]) := by
  subst hnx ha hb hd
  refine ⟨_, ring_snoc h1 c, ?_⟩
  rw [heap_setCell_same _ _ _ _ _ _ (heap_setCell_same _ _ _ _ _ _ (heap_setCell_same _ _ _ _ _ _ h2))]
  have hm : l.length % 8 < 8 := Nat.mod_lt _ (by omega)
  have e : (l ++ [c]).length % 8 = (l.length % 8 + 1) % 8 := by rw [List.length_append, List.length_singleton]; omega
  rw [e, ← rcs_set r (l.length % 8) (rsum l) (l.length % 8) (c.toNat + 1) _ _ h1.1 hm]
  simp
theorem mul_exk (a z : Int) : ∃ c : Nat, c < 4294967296 ∧ Hid ((c : Int) = a * z % 4294967296) ∧ a * z % 4294967296 = (c : Int) := by
  generalize a * z = y
  exact ⟨(y % 4294967296).toNat, by omega, (by omega : ((y % 4294967296).toNat : Int) = y % 4294967296), by omega⟩
theorem add_exk (a b : Int) : ∃ c : Nat, c < 4294967296 ∧ Hid ((c : Int) = (a + b) % 4294967296) ∧ (a + b) % 4294967296 = (c : Int) := by
  generalize a + b = y
  exact ⟨(y % 4294967296).toNat, by omega, (by omega : ((y % 4294967296).toNat : Int) = y % 4294967296), by omega⟩
theorem rc_info : (Try.prog.info? 23).map (fun i => (i.zero, i.size, i.bytes)) = some (some (.int .u32 0), 1, 4) := by kernel_rfl
set_option maxRecDepth 100000 in
set_option maxHeartbeats 1000000 in
theorem feed_any (B : Nat) (l : List UInt8) (c : UInt8) (w : World) (H : RC w B l) :
    Calls Try.prog 11 #[.pointer (some ⟨B, 0, none⟩), .int .u8 (c.toNat : Int)] w fun e w' => e = .returned (.tuple #[]) ∧ RC w' B (l ++ [c]) ∧ OnB B w w' := by
  have hs := H.sum
  obtain ⟨r, h1, h2⟩ := H
  have hc : c.toNat < 256 := c.toNat_lt
  obtain ⟨nx, hnx⟩ : ∃ nx, nx = l.length % 8 := ⟨_, rfl⟩
  have hn8 : nx < 8 := by omega
  have hx : w.cell? ⟨B, nx, none⟩ = some (.int .u32 (r.getD nx 0 : Int)) := by
    rw [cell_of_row _ _ _ _ _ _ h2]
    simpa using rcs_ring r _ _ nx h1.1 hn8
  have hnc : w.cell? ⟨B, 8, none⟩ = some (.int .i64 (nx : Int)) := by
    have hq := rcs_next r (l.length % 8) (rsum l) h1.1
    rw [← hnx] at hq
    rw [cell_of_row _ _ _ _ _ _ h2, ← hnx]
    simpa using hq
  have hfz : ∀ j, w.frozen? ⟨B, j, none⟩ = false := fun j => frozen_of_row _ _ _ _ _ h2
  have f9 := hfz 9
  have f8 := hfz 8
  have fn := hfz nx
  obtain ⟨x, hxx⟩ : ∃ x, x = r.getD nx 0 := ⟨_, rfl⟩
  rw [← hxx] at hx
  have hx256 : x ≤ 256 := by rw [hxx, hnx, ring_at h1]; exact ring_le
  obtain ⟨S, hS⟩ : ∃ S, S = rsum l := ⟨_, rfl⟩
  have hSl : S < 4294967296 := by rw [hS]; exact rsum_lt l
  rw [← hS] at hs
  obtain ⟨cn, hcn⟩ : ∃ cn, cn = c.toNat := ⟨_, rfl⟩
  rw [← hcn] at hc ⊢
  have HE := Lib.hid (And.intro h1 (And.intro h2 (And.intro hnx (And.intro hxx (And.intro hS hcn)))))
  clear h1 h2 hnx hxx hS hcn hfz
  have n9 : ¬ 9 = nx := by omega
  have n9' : ¬ nx = 9 := by omega
  have n8 : ¬ 8 = nx := by omega
  have n8' : ¬ nx = 8 := by omega
  obtain ⟨p1, q1, E1, g1⟩ := mul_exk (S : Int) 16777619
  obtain ⟨p2, q2, E2, g2⟩ := mul_exk ((cn : Int) + 1) 2654435761
  obtain ⟨p3, q3, E3, g3⟩ := mul_exk (x : Int) 1684037329
  obtain ⟨p4, q4, E4, g4⟩ := add_exk (p1 : Int) (p2 : Int)
  obtain ⟨p5, q5, E5, g5⟩ := add_exk (p4 : Int) (-(p3 : Int))
  rw [← Int.sub_eq_add_neg] at g5
  go_enter Try.func11, Try.ntmps11
  go_wp2_with fail
  go_region
  go_wp2_with fail
  go_region
  go_wp2_with fail
  obtain ⟨h1, h2, hnx, hxx, hS, hcn⟩ := HE.out
  refine bodyPost_end (results_none rfl _ _ _) rfl ⟨rfl, ?_, ?_⟩
  · refine (fed (w := w) h1 h2 nx hnx _ _ _ ?_ ?_ ?_).kept rfl
    · have e := rsum_snoc l c
      rw [← ring_at h1, ← hnx, ← hxx, ← hS, ← hcn, g1, g2, g3, g4, g5] at e
      exact e
    · rw [← hcn]
      rfl
    · rfl
  · exact (((((OnB.refl B w).set 9 _).drew).set nx _).drew).set 8 _
end Go.Proofs.Ytnogddjhkdmahaa
