/- ScanNobody: of a Scan that no call made nothing is read, whatever is asked. No condition. -/
import Derived.Test.YtefhccegnjhhnabRows
import Derived.Test.YtefhccegnjhhnabSawake
namespace Go.Proofs.Ytefhccegnjhhnab.LNobody4
open Go.RowKit

set_option maxHeartbeats 1600000 in
set_option maxRecDepth 100000 in
theorem walk_nil (n : Int) (w : World) :
    Calls Try.prog 5 #[.int .i64 n, .bool false] w fun e w' => e = .returned (.bool true) ∧ Below w.heap.size w w' := by
  go_enter Try.func5, Try.ntmps5
  go_wp2_with fail
  refine (fail_nil w 2).mono ?_
  rintro e w1 ⟨rfl, hb1⟩
  go_wp2_with fail
  refine (fix_nil w1 n).mono ?_
  rintro e w2 ⟨rfl, k⟩
  have hb2 := hb1.trans (k.mono hb1.size)
  clear hb1 k
  go_wp2_with fail
  refine (byte_nil w2).mono ?_
  rintro e w3 ⟨rfl, k⟩
  have hb3 := hb2.trans (k.mono hb2.size)
  clear hb2 k
  go_wp2_with fail
  refine (num_nil w3 n).mono ?_
  rintro e w4 ⟨rfl, k⟩
  have hb4 := hb3.trans (k.mono hb3.size)
  clear hb3 k
  go_wp2_with fail
  refine (int_nil w4).mono ?_
  rintro e w5 ⟨rfl, k⟩
  have hb5 := hb4.trans (k.mono hb4.size)
  clear hb4 k
  go_wp2_with fail
  refine (text_nil w5 n).mono ?_
  rintro e w6 ⟨rfl, k⟩
  have hb6 := hb5.trans (k.mono hb5.size)
  clear hb5 k
  go_wp2_with fail
  refine (rest_nil w6).mono ?_
  rintro e w7 ⟨rfl, k⟩
  have hb7 := hb6.trans (k.mono hb6.size)
  clear hb6 k
  go_wp2_with fail
  refine (end_nil w7).mono ?_
  rintro e w8 ⟨rfl, k⟩
  have hb8 := hb7.trans (k.mono hb7.size)
  clear hb7 k
  go_wp2_with fail
  refine (err_nil w8).mono ?_
  rintro e w9 ⟨rfl, rfl⟩
  go_wp2_with fail
  refine (at_nil w8).mono ?_
  rintro e w9 ⟨rfl, rfl⟩
  go_wp2_with fail
  refine (awake4_any w8).mono ?_
  rintro e w9 ⟨rfl, k⟩
  have hb9 := hb8.trans (k.mono hb8.size)
  clear hb8 k
  go_wp2_with fail
  go_ret
  exact ⟨rfl, hb9⟩

set_option maxHeartbeats 1600000 in
set_option maxRecDepth 100000 in
theorem walk_zero (n : Int) (w : World) :
    Calls Try.prog 5 #[.int .i64 n, .bool true] w fun e w' => e = .returned (.bool true) ∧ Below w.heap.size w w' := by
  go_enter Try.func5, Try.ntmps5
  go_wp2_with fail
  refine (fail_err _ w.heap.size false ⟨#[]⟩ 0 0 2 (heap_alloc_new _ _) (Or.inl rfl)).mono ?_
  rintro e w1 ⟨rfl, hs1, k⟩
  have hb1 : Below w.heap.size w w1 := But.below ((Below.refl _ w).alloc (Nat.le_refl _) _) k (Nat.le_refl _) (by simp)
  clear k
  go_wp2_with fail
  refine (fix_err w1 w.heap.size false ⟨#[]⟩ 0 0 n hs1 (Or.inl rfl)).mono ?_
  rintro e w2 ⟨rfl, hs2, k⟩
  have hb2 := But.below hb1 k (Nat.le_refl _) hb1.size
  clear hb1 k hs1
  go_wp2_with fail
  refine (byte_err w2 w.heap.size false ⟨#[]⟩ 0 0 hs2 (Or.inl rfl)).mono ?_
  rintro e w3 ⟨rfl, hs3, k⟩
  have hb3 := But.below hb2 k (Nat.le_refl _) hb2.size
  clear hb2 k hs2
  go_wp2_with fail
  refine (num_err w3 w.heap.size false ⟨#[]⟩ 0 0 n hs3 (Or.inl rfl)).mono ?_
  rintro e w4 ⟨rfl, hs4, k⟩
  have hb4 := But.below hb3 k (Nat.le_refl _) hb3.size
  clear hb3 k hs3
  go_wp2_with fail
  refine (int_err w4 w.heap.size false ⟨#[]⟩ 0 0 hs4 (Or.inl rfl)).mono ?_
  rintro e w5 ⟨rfl, hs5, k⟩
  have hb5 := But.below hb4 k (Nat.le_refl _) hb4.size
  clear hb4 k hs4
  go_wp2_with fail
  refine (text_err w5 w.heap.size false ⟨#[]⟩ 0 0 n hs5 (Or.inl rfl)).mono ?_
  rintro e w6 ⟨rfl, hs6, k⟩
  have hb6 := But.below hb5 k (Nat.le_refl _) hb5.size
  clear hb5 k hs5
  go_wp2_with fail
  refine (rest_err w6 w.heap.size false ⟨#[]⟩ 0 0 hs6 (Or.inl rfl)).mono ?_
  rintro e w7 ⟨rfl, hs7, k⟩
  have hb7 := But.below hb6 k (Nat.le_refl _) hb6.size
  clear hb6 k hs6
  go_wp2_with fail
  refine (end_err w7 w.heap.size false ⟨#[]⟩ 0 0 hs7 (Or.inl rfl)).mono ?_
  rintro e w8 ⟨rfl, hs8, k⟩
  have hb8 := But.below hb7 k (Nat.le_refl _) hb7.size
  clear hb7 k hs7
  go_wp2_with fail
  refine (err_any w8 w.heap.size false ⟨#[]⟩ 0 0 hs8).mono ?_
  rintro e w9 ⟨rfl, rfl⟩
  go_wp2_with fail
  refine (at_any w8 w.heap.size false ⟨#[]⟩ 0 0 hs8).mono ?_
  rintro e w9 ⟨rfl, rfl⟩
  go_wp2_with fail
  refine (awake4_any w8).mono ?_
  rintro e w9 ⟨rfl, k⟩
  have hb9 := hb8.trans (k.mono hb8.size)
  clear hb8 k
  go_wp2_with fail
  go_ret
  exact ⟨rfl, hb9⟩

theorem walk (n : Int) (there : Bool) (w : World) :
    Calls Try.prog 5 #[.int .i64 n, .bool there] w fun e w' => e = .returned (.bool true) ∧ Below w.heap.size w w' := by
  cases there
  · exact walk_nil n w
  · exact walk_zero n w
end Go.Proofs.Ytefhccegnjhhnab.LNobody4
