/- ScanKeeps: behind an error nothing is read of any text, and the error stays. No condition. -/
import Derived.Test.YtefhccegnjhhnabRows
import Derived.Test.YtefhccegnjhhnabSawake
namespace Go.Proofs.Ytefhccegnjhhnab.LKeeps
open Go.RowKit

set_option maxHeartbeats 1600000 in
set_option maxRecDepth 100000 in
theorem walk (s : ByteArray) (er n : Int) (w : World) (hs : s.size ≤ maxLen) :
    Calls Try.prog 4 #[.string s, .int .i64 er, .int .i64 n] w fun e w' => e = .returned (.bool true) ∧ Below w.heap.size w w' := by
  have hs2 := hs
  unfold maxLen at hs2
  by_cases hb : 500 < (s.size : Int)
  · go_enter Try.func4, Try.ntmps4
    go_wp2_with fail
    refine (awake4_any _).mono ?_
    rintro e w1 ⟨rfl, hb1⟩
    go_wp2_with fail
    go_ret
    exact ⟨rfl, hb1⟩
  by_cases he : er = 0
  · subst he
    go_enter Try.func4, Try.ntmps4
    go_wp2_with fail
    refine (awake4_any _).mono ?_
    rintro e w1 ⟨rfl, hb1⟩
    go_wp2_with fail
    go_ret
    exact ⟨rfl, hb1⟩
  have hne : (er != 0) = true := by simpa using he
  have hne2 : (er == 0) = false := by simpa using he
  have HE : Hid (true = false ∨ er ≠ 0) := Or.inr he
  have q1 : (er == er) = true := by simp
  clear he
  go_enter Try.func4, Try.ntmps4
  go_wp2_with fail
  refine (new_any s w).mono ?_
  rintro e w0 ⟨rfl, hs0, hb0⟩
  go_wp2_with fail
  refine (fail_yes w0 w.heap.size s 0 er (by omega) (by omega) hs0 hne hne2).mono ?_
  rintro e w1 ⟨rfl, hs1, k⟩
  have hb1 := But.below hb0 k (Nat.le_refl _) hb0.size
  clear hb0 k hs0
  go_wp2_with fail
  refine (fix_err w1 w.heap.size true s 0 er n hs1 HE.out).mono ?_
  rintro e w2 ⟨rfl, hs2, k⟩
  have hb2 := But.below hb1 k (Nat.le_refl _) hb1.size
  clear hb1 k hs1
  go_wp2_with fail
  refine (byte_err w2 w.heap.size true s 0 er hs2 HE.out).mono ?_
  rintro e w3 ⟨rfl, hs3, k⟩
  have hb3 := But.below hb2 k (Nat.le_refl _) hb2.size
  clear hb2 k hs2
  go_wp2_with fail
  refine (num_err w3 w.heap.size true s 0 er n hs3 HE.out).mono ?_
  rintro e w4 ⟨rfl, hs4, k⟩
  have hb4 := But.below hb3 k (Nat.le_refl _) hb3.size
  clear hb3 k hs3
  go_wp2_with fail
  refine (int_err w4 w.heap.size true s 0 er hs4 HE.out).mono ?_
  rintro e w5 ⟨rfl, hs5, k⟩
  have hb5 := But.below hb4 k (Nat.le_refl _) hb4.size
  clear hb4 k hs4
  go_wp2_with fail
  refine (text_err w5 w.heap.size true s 0 er n hs5 HE.out).mono ?_
  rintro e w6 ⟨rfl, hs6, k⟩
  have hb6 := But.below hb5 k (Nat.le_refl _) hb5.size
  clear hb5 k hs5
  go_wp2_with fail
  refine (rest_err w6 w.heap.size true s 0 er hs6 HE.out).mono ?_
  rintro e w7 ⟨rfl, hs7, k⟩
  have hb7 := But.below hb6 k (Nat.le_refl _) hb6.size
  clear hb6 k hs6
  go_wp2_with fail
  refine (fail_err w7 w.heap.size true s 0 er 2 hs7 HE.out).mono ?_
  rintro e w8 ⟨rfl, hs8, k⟩
  have hb8 := But.below hb7 k (Nat.le_refl _) hb7.size
  clear hb7 k hs7
  go_wp2_with fail
  refine (end_err w8 w.heap.size true s 0 er hs8 HE.out).mono ?_
  rintro e w9 ⟨rfl, hs9, k⟩
  have hb9 := But.below hb8 k (Nat.le_refl _) hb8.size
  clear hb8 k hs8
  go_wp2_with fail
  refine (err_any w9 w.heap.size true s 0 er hs9).mono ?_
  rintro e w10 ⟨rfl, rfl⟩
  go_wp2_with fail
  refine (at_any w9 w.heap.size true s 0 er hs9).mono ?_
  rintro e w10 ⟨rfl, rfl⟩
  go_wp2_with fail
  refine (awake4_any w9).mono ?_
  rintro e w10 ⟨rfl, k⟩
  have hb10 := hb9.trans (k.mono hb9.size)
  clear hb9 k
  go_wp2_with fail
  go_ret
  exact ⟨rfl, hb10⟩
end Go.Proofs.Ytefhccegnjhhnab.LKeeps
