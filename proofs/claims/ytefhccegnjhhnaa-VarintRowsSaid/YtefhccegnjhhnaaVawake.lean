/- The chapter's examples of layer 1 hold over this translation. No condition. -/
import Derived.Test.YtefhccegnjhhnaaVget
namespace Go.Proofs.Ytefhccegnjhhnaa
open Go.RowKit Vi

theorem ex_a : gv (ByteArray.mk #[128, 0]).data.toList = .tuple #[.int .u64 0, .int .i64 0, .bool false] := by rfl
theorem ex_b : (Value.tuple #[.int .i64 (zag (gn (ByteArray.mk #[1, 120]).data.toList)), .int .i64 (gk (ByteArray.mk #[1, 120]).data.toList), .bool (gb (ByteArray.mk #[1, 120]).data.toList)]) = .tuple #[.int .i64 (-1), .int .i64 1, .bool true] := by rfl
theorem ex_c : (ByteArray.mk (put 300).toArray) = ByteArray.mk #[172, 2] := by rfl
theorem ex_d : (ByteArray.mk (put (zig (-1))).toArray) = ByteArray.mk #[1] := by rfl

set_option maxHeartbeats 400000 in
set_option maxRecDepth 100000 in
theorem awake_any (w : World) : Calls Try.prog 8 #[] w fun e w' => e = .returned (.bool true) ∧ Below w.heap.size w w' := by
  go_enter Try.func8, Try.ntmps8
  go_wp2_with fail
  refine (get_any ⟨#[128, 0]⟩ _ (by decide)).mono ?_
  rintro e w' ⟨rfl, rfl⟩
  rw [ex_a]
  go_wp2_with fail
  refine (getInt_any ⟨#[1, 120]⟩ _ (by decide)).mono ?_
  rintro e w' ⟨rfl, rfl⟩
  rw [ex_b]
  go_wp2_with fail
  refine (put_any 300 _ (by decide)).mono ?_
  rintro e w1 ⟨rfl, hb1⟩
  rw [ex_c]
  go_wp2_with fail
  refine (int_any (-1) _ (by decide) (by decide)).mono ?_
  rintro e w2 ⟨rfl, hb2⟩
  rw [ex_d]
  have hb := hb1.trans (hb2.mono hb1.size)
  clear hb1 hb2
  go_wp2
  go_ret
  exact ⟨rfl, hb⟩
end Go.Proofs.Ytefhccegnjhhnaa
