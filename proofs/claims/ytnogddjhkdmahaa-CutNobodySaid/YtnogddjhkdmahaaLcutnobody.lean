/- CutNobody: a cutter that no call made ends nothing. No condition. -/
import Derived.Test.YtnogddjhkdmahaaRows
import Derived.Test.YtnogddjhkdmahaaJd
namespace Go.Proofs.Ytnogddjhkdmahaa.LCutNobody
open Go.RowKit Rm Jm

set_option maxRecDepth 100000 in
set_option maxHeartbeats 1000000 in
theorem walk (s : ByteArray) (there : Bool) (w : World) :
    Calls Try.prog 9 #[.string s, .bool there] w fun e w' => e = .returned (.bool true) ∧ Below w.heap.size w w' := by
  cases there with
  | false =>
    go_enter Try.func9, Try.ntmps9
    go_wp2_with fail
    refine (cnext_nil s _).mono ?_
    rintro e w1 ⟨rfl, rfl⟩
    go_wp2_with fail
    refine (cnext_nil s _).mono ?_
    rintro e w1 ⟨rfl, rfl⟩
    go_wp2_with fail
    refine (csize_nil _).mono ?_
    rintro e w1 ⟨rfl, rfl⟩
    go_wp2_with fail
    refine (awake18 _).mono ?_
    rintro e w1 ⟨rfl, hb⟩
    have HB := Lib.hid hb
    clear hb
    go_wp2_with fail
    go_ret
    exact ⟨rfl, HB.out⟩
  | true =>
    have HC := Lib.hid (show CC (w.alloc (.cells #[.bool false, .int .i64 0, .int .i64 0] 48)) w.heap.size false 0 0 from heap_alloc_new w _)
    go_enter Try.func9, Try.ntmps9
    go_wp2_with fail
    refine (cnext_none _ 0 0 s _ HC.out).mono ?_
    rintro e w1 ⟨rfl, rfl⟩
    go_wp2_with fail
    refine (cnext_none _ 0 0 s _ HC.out).mono ?_
    rintro e w1 ⟨rfl, rfl⟩
    go_wp2_with fail
    refine (csize_any _ _ _ _ _ HC.out).mono ?_
    rintro e w1 ⟨rfl, rfl⟩
    go_wp2_with fail
    refine (awake18 _).mono ?_
    rintro e w1 ⟨rfl, hb⟩
    have HB := Lib.hid (((Below.refl _ w).alloc (Nat.le_refl _) _).trans (hb.mono (by simp)))
    clear hb
    go_wp2_with fail
    go_ret
    exact ⟨rfl, HB.out⟩
end Go.Proofs.Ytnogddjhkdmahaa.LCutNobody
