/- The contracts of sha.start, isMade, New, Put, Len, both Sums over this translation. Conditions: a sum that lies in a block of its own; the table that the program's text lays. -/
import Derived.Test.YtjmfmbokphagaaaDoorHb
namespace Go.Proofs.YtjmfmbokphagaaaDoor
open Go.RowKit Hm

def hc0 : Array Value := (hcs first (List.replicate 64 0) 0).toArray
theorem hc_one (h : List Nat) (b : List UInt8) (n : Nat) : (hcs h b n).toArray.all (·.oneCell') = true := by
  rw [Array.all_eq_true_iff_forall_mem]
  intro v hv
  simp [hcs] at hv
  rcases hv with rfl | ⟨x, _, rfl⟩ | ⟨x, _, rfl⟩ | rfl <;> rfl
theorem hc_info (h : List Nat) (b : List UInt8) (n : Nat) (hl : h.length = 8) (hb : b.length = 64) : (Tryd.prog.info? 42).map (·.size) = some (hcs h b n).toArray.size := by
  rw [List.size_toArray, hcs_len h b n hl hb]
  kernel_rfl
set_option maxRecDepth 100000 in
set_option maxHeartbeats 1000000 in
theorem start_any (w : World) : Calls Tryd.prog 69 #[] w fun e w' => e = .returned (.agg hc0) ∧ Below w.heap.size w w' := by
  go_enter Tryd.func69, Tryd.ntmps69
  go_wp2_with (refine wpList_store_row rfl 42 (.tmp 0) (.tmp 2) rfl w.heap.size hc0 rfl (by kernel_rfl) 42 _ (heap_alloc_new w _) (by kernel_rfl) (by kernel_rfl) (by kernel_rfl) ?_)
  refine bodyPost_ret (results_cell_row rfl _ _ w.heap.size 42 hc0 (0, 0) _ rfl (setRow_heap _ w.heap.size _ hc0 42 (0, 0) (heap_alloc_new w _)) Tryd.underlying42 rfl (by kernel_rfl)) rfl ?_
  exact ⟨rfl, below_setRow ((Below.refl _ w).alloc (Nat.le_refl _) _) (Nat.le_refl _) hc0⟩
theorem is_nil (w : World) : Calls Tryd.prog 77 #[.pointer none] w fun e w' => e = .returned (.bool false) ∧ w = w' := by
  go_enter Tryd.func77, Tryd.ntmps77
  go_wp2_with fail
  go_ret
  exact ⟨rfl, rfl⟩
theorem is_made (B : Nat) (x : Bool) (w : World) (h : w.cell? ⟨B, 0, none⟩ = some (.bool x)) : Calls Tryd.prog 77 #[.pointer (some ⟨B, 0, none⟩)] w fun e w' => e = .returned (.bool x) ∧ w = w' := by
  go_enter Tryd.func77, Tryd.ntmps77
  go_wp2_with fail
  go_ret
  exact ⟨rfl, rfl⟩
theorem SL.start {w : World} {B : Nat} (h : w.heap[B]? = some (.cells hc0 42 (0, 0))) : SL w B [] :=
  ⟨List.replicate 64 0, ⟨rfl, by decide, rfl, h⟩, rfl⟩
theorem HTab.lt {w : World} (h : HTab w) : 0 < w.heap.size := World.block_lt_of_cell? w _ (h 0 (by omega))
theorem HTab.ne {w : World} (h : HTab w) {B : Nat} (hB : w.heap.size ≤ B) : 0 ≠ B := fun e => by
  have := h.lt
  omega
/-- a new sum's answer -/
def MadeH (w : World) (e : Ending) (w' : World) : Prop := ∃ B, e = .returned (.pointer (some ⟨B, 0, none⟩)) ∧ SL w' B [] ∧ w.heap.size ≤ B ∧ Below w.heap.size w w'
set_option maxRecDepth 100000 in
set_option maxHeartbeats 1000000 in
theorem new_any (w : World) : Calls Tryd.prog 17 #[] w (MadeH w) := by
  go_enter Tryd.func17, Tryd.ntmps17
  go_wp2_with fail
  refine (start_any w).mono ?_
  rintro e w1 ⟨rfl, hb⟩
  have HB := Lib.hid hb
  clear hb
  go_wp2_with (refine wpList_store_row rfl 42 (.tmp 1) (.tmp 2) rfl w1.heap.size hc0 rfl rfl 42 _ (heap_alloc_new w1 _) (by kernel_rfl) (by kernel_rfl) (by kernel_rfl) ?_)
  refine bodyPost_ret (v := .pointer (some ⟨w1.heap.size, 0, none⟩)) (by simp [results, Tryd.results17, go_sem]) rfl ?_
  exact ⟨w1.heap.size, rfl, SL.start (setRow_heap _ w1.heap.size _ hc0 42 (0, 0) (heap_alloc_new w1 _)), HB.out.size, below_setRow (HB.out.alloc HB.out.size _) HB.out.size hc0⟩
theorem SL.made {w : World} {B : Nat} {l : List UInt8} (h : SL w B l) : w.cell? ⟨B, 0, none⟩ = some (.bool true) := by
  obtain ⟨b, h1, _⟩ := h
  exact h1.made
theorem SL.count {w : World} {B : Nat} {l : List UInt8} (h : SL w B l) : w.cell? ⟨B, 73, none⟩ = some (.int .i64 (l.length : Int)) := by
  obtain ⟨b, h1, _⟩ := h
  exact h1.count
set_option maxRecDepth 100000 in
theorem hput_any (B : Nat) (l : List UInt8) (t : ByteArray) (w : World) (H : SL w B l) (hT : HTab w) (hB : 0 ≠ B) (hn : l.length + t.size ≤ 1152921504606846976) :
    Calls Tryd.prog 18 #[.pointer (some ⟨B, 0, none⟩), .string t] w fun e w' => e = .returned (.int .i64 0) ∧ SL w' B (l ++ t.data.toList) ∧ Only B w w' := by
  have HA := Lib.hid (add_any B l t w H hT hB hn)
  have hm := H.made
  clear H hT hB hn
  go_enter Tryd.func18, Tryd.ntmps18
  go_wp2_with fail
  refine (is_made B true w hm).mono ?_
  rintro e w1 ⟨rfl, rfl⟩
  go_wp2_with fail
  refine HA.out.mono ?_
  rintro e w1 ⟨rfl, h1, h2⟩
  have H1 := Lib.hid h1
  have H2 := Lib.hid h2
  clear h1 h2
  go_wp2_with fail
  go_ret
  exact ⟨rfl, H1.out, H2.out⟩
theorem hlen_any (B : Nat) (l : List UInt8) (w : World) (H : SL w B l) :
    Calls Tryd.prog 20 #[.pointer (some ⟨B, 0, none⟩)] w fun e w' => e = .returned (.int .i64 (l.length : Int)) ∧ w = w' := by
  have hm := H.made
  have hc := H.count
  clear H
  go_enter Tryd.func20, Tryd.ntmps20
  go_wp2_with fail
  refine (is_made B true w hm).mono ?_
  rintro e w1 ⟨rfl, rfl⟩
  go_wp2_with fail
  go_ret
  exact ⟨rfl, rfl⟩
theorem done_bytes (l : List UInt8) (w : World) (B : Nat) (H : SL w B (l ++ tailOf l.length)) :
    Calls Tryd.prog 72 #[.pointer (some ⟨B, 0, none⟩)] w fun e w' => e = .returned (.string ⟨(Hm.sum l).toArray⟩) ∧ Below w.heap.size w w' := by
  obtain ⟨b, h1, _⟩ := H
  have h := bytes_any B _ b _ w h1
  rw [sum_blk] at h
  exact h
end Go.Proofs.YtjmfmbokphagaaaDoor
