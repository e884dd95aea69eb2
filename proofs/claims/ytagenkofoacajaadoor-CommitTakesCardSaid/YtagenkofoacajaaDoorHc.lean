/- The contracts of sha.start, isMade, New, Put, Len, both Sums over this translation. Conditions: a sum that lies in a block of its own; the table that the program's text lays. -/
import Derived.Test.YtagenkofoacajaaDoorHb
namespace Go.Proofs.YtagenkofoacajaaDoor
open Go.RowKit Hm

def hc0 : Array Value := (hcs first (List.replicate 64 0) 0).toArray
theorem hc_one (h : List Nat) (b : List UInt8) (n : Nat) : (hcs h b n).toArray.all (·.oneCell') = true := by
  rw [Array.all_eq_true_iff_forall_mem]
  intro v hv
  simp [hcs] at hv
  rcases hv with rfl | ⟨x, _, rfl⟩ | ⟨x, _, rfl⟩ | rfl <;> rfl
theorem hc_info (h : List Nat) (b : List UInt8) (n : Nat) (hl : h.length = 8) (hb : b.length = 64) : (Tryd.prog.info? 144).map (·.size) = some (hcs h b n).toArray.size := by
  rw [List.size_toArray, hcs_len h b n hl hb]
  kernel_rfl
set_option maxRecDepth 100000 in
set_option maxHeartbeats 1000000 in
theorem start_any (w : World) : Calls Tryd.prog 105 #[] w fun e w' => e = .returned (.agg hc0) ∧ Below w.heap.size w w' := by
  go_enter Tryd.func105, Tryd.ntmps105
  go_wp2_with (refine wpList_store_row rfl 144 (.tmp 0) (.tmp 2) rfl w.heap.size hc0 rfl (by kernel_rfl) 144 _ (heap_alloc_new w _) (by kernel_rfl) (by kernel_rfl) (by kernel_rfl) ?_)
  refine bodyPost_ret (results_cell_row rfl _ _ w.heap.size 144 hc0 (0, 0) _ rfl (setRow_heap _ w.heap.size _ hc0 144 (0, 0) (heap_alloc_new w _)) Tryd.underlying144 rfl (by kernel_rfl)) rfl ?_
  exact ⟨rfl, below_setRow ((Below.refl _ w).alloc (Nat.le_refl _) _) (Nat.le_refl _) hc0⟩
theorem SL.start {w : World} {B : Nat} (h : w.heap[B]? = some (.cells hc0 144 (0, 0))) : SL w B [] :=
  ⟨List.replicate 64 0, ⟨rfl, by decide, rfl, h⟩, rfl⟩
theorem HTab.lt {w : World} (h : HTab w) : 0 < w.heap.size := World.block_lt_of_cell? w _ (h 0 (by omega))
theorem HTab.ne {w : World} (h : HTab w) {B : Nat} (hB : w.heap.size ≤ B) : 0 ≠ B := fun e => by
  have := h.lt
  omega
/-- a new sum's answer -/
def MadeH (w : World) (e : Ending) (w' : World) : Prop := ∃ B, e = .returned (.pointer (some ⟨B, 0, none⟩)) ∧ SL w' B [] ∧ w.heap.size ≤ B ∧ Below w.heap.size w w'
theorem SL.made {w : World} {B : Nat} {l : List UInt8} (h : SL w B l) : w.cell? ⟨B, 0, none⟩ = some (.bool true) := by
  obtain ⟨b, h1, _⟩ := h
  exact h1.made
theorem SL.count {w : World} {B : Nat} {l : List UInt8} (h : SL w B l) : w.cell? ⟨B, 73, none⟩ = some (.int .i64 (l.length : Int)) := by
  obtain ⟨b, h1, _⟩ := h
  exact h1.count
theorem done_bytes (l : List UInt8) (w : World) (B : Nat) (H : SL w B (l ++ tailOf l.length)) :
    Calls Tryd.prog 108 #[.pointer (some ⟨B, 0, none⟩)] w fun e w' => e = .returned (.string ⟨(Hm.sum l).toArray⟩) ∧ Below w.heap.size w w' := by
  obtain ⟨b, h1, _⟩ := H
  have h := bytes_any B _ b _ w h1
  rw [sum_blk] at h
  exact h
end Go.Proofs.YtagenkofoacajaaDoor
