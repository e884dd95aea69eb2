/- VarintPuts: for every number of 64 bits and every text, its bytes, their number, and what is taken off any text, are the document's. No condition. -/
import Derived.Test.YtefhccegnjhhnaaRows
import Derived.Test.YtefhccegnjhhnaaVawake
import Derived.Test.YtefhccegnjhhnaaVsize
import Derived.Test.YtefhccegnjhhnaaVrget
import Derived.ProofKit
import Derived.OpenShut
namespace Go.Proofs.Ytefhccegnjhhnaa.LPuts
open Go.RowKit Vi

set_option maxHeartbeats 800000 in
set_option maxRecDepth 100000 in
theorem walk (n : Nat) (s : ByteArray) (w : World) (hn : (n : Int) ≤ 18446744073709551615) (hs : s.size ≤ maxLen) :
    Calls Try.prog 3 #[.int .u64 n, .string s] w fun e w' => e = .returned (.bool true) ∧ Below w.heap.size w w' := by
  have hs2 := hs
  unfold maxLen at hs2
  by_cases hb : 1000 < (s.size : Int)
  · go_enter Try.func3, Try.ntmps3
    go_wp2_with fail
    refine (awake_any _).mono ?_
    rintro e w1 ⟨rfl, hb1⟩
    go_wp2_with fail
    go_ret
    exact ⟨rfl, hb1⟩
  · go_enter Try.func3, Try.ntmps3
    go_wp2_with fail
    refine (get_any s _ hs).mono ?_
    rintro e w1 ⟨rfl, rfl⟩
    unfold gv
    go_wp2_with fail
    refine (refGet_any s _ hs).mono ?_
    rintro e w1 ⟨rfl, hb1⟩
    unfold gv
    go_wp2_with fail
    refine (put_any n _ hn).mono ?_
    rintro e w2 ⟨rfl, hb2⟩
    go_wp2_with fail
    refine (refPut_any n _ hn).mono ?_
    rintro e w3 ⟨rfl, hb3⟩
    have hq : (put n == put n) = true := by simp
    go_wp2_with fail
    refine (size_any n _ hn).mono ?_
    rintro e w4 ⟨rfl, rfl⟩
    go_wp2_with fail
    refine (digits_any n _ hn).mono ?_
    rintro e w5 ⟨v, rfl, hown, hb5⟩
    have hv : ∃ a c, v = .slice a (put n).length c := by
      rcases hown.2 with ⟨rfl, he⟩ | ⟨g, cap, cur, rfl, _⟩
      · exact ⟨none, 0, by rw [← digs_len n hn, he]⟩
      · exact ⟨_, cap, by rw [← digs_len n hn]⟩
    obtain ⟨a, c, rfl⟩ := hv
    have hbb : Below w.heap.size w w5 := hb1.trans ((hb2.trans ((hb3.trans (hb5.mono hb3.size)).mono hb2.size)).mono hb1.size)
    have hsz := hbb.size
    clear hown hb1 hb2 hb3 hb5
    generalize gn s.data.toList = x1 at *
    generalize gk s.data.toList = x2 at *
    generalize gb s.data.toList = x3 at *
    generalize (put n).length = x4 at *
    have q1 : ((x4 : Int) == x4) = true := by simp
    have q2 : ((x1 : Int) == x1) = true := by simp
    have q3 : ((x2 : Int) == x2) = true := by simp
    have q4 : (x3 == x3) = true := by simp
    go_wp2_with fail
    refine (awake_any _).mono ?_
    rintro e w6 ⟨rfl, hb6⟩
    go_wp2_with fail
    go_ret
    exact ⟨rfl, hbb.trans (hb6.mono hsz)⟩
end Go.Proofs.Ytefhccegnjhhnaa.LPuts
