/- ShaNobody: a sum that no call began has nothing, and takes nothing. Condition: the table that the program's text lays. -/
import Derived.Test.YtjmfmbokphagaaaDoorRows
import Derived.Test.YtjmfmbokphagaaaDoorHw
namespace Go.Proofs.YtjmfmbokphagaaaDoor.LShaNobody
open Go.RowKit

set_option maxHeartbeats 1000000 in
set_option maxRecDepth 100000 in
theorem walk_nil (s : ByteArray) (w : World) (hT : HTab w) :
    Calls Tryd.prog 6 #[.string s, .bool false] w fun e w' => e = .returned (.bool true) ∧ Below w.heap.size w w' := by
  have HA := Lib.hid (awake3_any w hT)
  clear hT
  go_enter Tryd.func6, Tryd.ntmps6
  go_wp2_with fail
  refine (hput_nil s w).mono ?_
  rintro e w1 ⟨rfl, rfl⟩
  go_wp2_with fail
  refine (hsum_nil w).mono ?_
  rintro e w1 ⟨rfl, rfl⟩
  go_wp2_with fail
  refine (hlen_nil w).mono ?_
  rintro e w1 ⟨rfl, rfl⟩
  go_wp2_with fail
  refine HA.out.mono ?_
  rintro e w1 ⟨rfl, hb⟩
  have HB := Lib.hid hb
  clear hb HA
  go_wp2_with fail
  go_ret
  exact ⟨rfl, HB.out⟩
set_option maxHeartbeats 1000000 in
set_option maxRecDepth 100000 in
theorem walk_there (s : ByteArray) (w : World) (hT : HTab w) :
    Calls Tryd.prog 6 #[.string s, .bool true] w fun e w' => e = .returned (.bool true) ∧ Below w.heap.size w w' := by
  have HT := Lib.hid hT
  clear hT
  go_enter Tryd.func6, Tryd.ntmps6
  go_wp2_with fail
  obtain ⟨w0, hw0⟩ : ∃ w0, w0 = w.alloc (.cells Tryd.zeroCells42 42) := ⟨_, rfl⟩
  have hc : w0.cell? ⟨w.heap.size, 0, none⟩ = some (.bool false) := by
    rw [hw0, cell_of_row _ _ _ _ _ _ (heap_alloc_new w _)]
    kernel_rfl
  have B0 := Lib.hid (show Below w.heap.size w w0 by rw [hw0]; exact (Below.refl _ w).alloc (Nat.le_refl _) _)
  have HA := Lib.hid (awake3_any w0 (HT.out.later B0.out))
  rw [← hw0]
  clear hw0
  refine (hput_not w.heap.size s w0 hc).mono ?_
  rintro e w1 ⟨rfl, rfl⟩
  go_wp2_with fail
  refine (hsum_not w.heap.size w0 hc).mono ?_
  rintro e w1 ⟨rfl, rfl⟩
  go_wp2_with fail
  refine (hlen_not w.heap.size w0 hc).mono ?_
  rintro e w1 ⟨rfl, rfl⟩
  go_wp2_with fail
  refine HA.out.mono ?_
  rintro e w1 ⟨rfl, hb⟩
  have HB := Lib.hid hb
  clear hb HA
  go_wp2_with fail
  go_ret
  exact ⟨rfl, B0.out.trans (HB.out.mono B0.out.size)⟩
theorem walk (s : ByteArray) (b : Bool) (w : World) (hT : HTab w) :
    Calls Tryd.prog 6 #[.string s, .bool b] w fun e w' => e = .returned (.bool true) ∧ Below w.heap.size w w' := by
  cases b
  · exact walk_nil s w hT
  · exact walk_there s w hT
end Go.Proofs.YtjmfmbokphagaaaDoor.LShaNobody
