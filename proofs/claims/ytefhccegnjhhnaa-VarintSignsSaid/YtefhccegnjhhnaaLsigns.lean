/- VarintSigns: for every number of either sign, every number of 64 bits and every text, places, bytes and what is taken are the document's. No condition. -/
import Derived.Test.YtefhccegnjhhnaaRows
import Derived.Test.YtefhccegnjhhnaaVawake
import Derived.Test.YtefhccegnjhhnaaVrget
namespace Go.Proofs.Ytefhccegnjhhnaa.LSigns
open Go.RowKit Vi

set_option maxHeartbeats 1600000 in
set_option maxRecDepth 100000 in
theorem walk (n : Int) (u : Nat) (s : ByteArray) (w : World) (h0 : -9223372036854775808 ≤ n) (h1 : n ≤ 9223372036854775807) (hu : (u : Int) ≤ 18446744073709551615) (hs : s.size ≤ maxLen) :
    Calls Try.prog 5 #[.int .i64 n, .int .u64 u, .string s] w fun e w' => e = .returned (.bool true) ∧ Below w.heap.size w w' := by
  have hs2 := hs
  unfold maxLen at hs2
  by_cases hb : 1000 < (s.size : Int)
  · go_enter Try.func5, Try.ntmps5
    go_wp2_with fail
    refine (awake_any _).mono ?_
    rintro e w1 ⟨rfl, hb1⟩
    go_wp2_with fail
    go_ret
    exact ⟨rfl, hb1⟩
  · have hz := zig_le n h0 h1
    have hg := gn_lt s.data.toList
    have hza := zag_le u hu
    go_enter Try.func5, Try.ntmps5
    go_wp2_with fail
    refine (getInt_any s _ hs).mono ?_
    rintro e w1 ⟨rfl, rfl⟩
    go_wp2_with fail
    refine (refGet_any s _ hs).mono ?_
    rintro e w1 ⟨rfl, hb1⟩
    unfold gv
    generalize gn s.data.toList = x1 at *
    generalize gk s.data.toList = x2 at *
    generalize gb s.data.toList = x3 at *
    have q0 : ((zig n : Int) != (zig n : Int)) = false := by simp
    have q1 : (zag u != zag u) = false := by simp
    have q2 : (n != n) = false := by simp
    have q3 : ((u : Int) != (u : Int)) = false := by simp
    go_wp2_with fail
    refine (zig_any n _ h0 h1).mono ?_
    rintro e w2 ⟨rfl, rfl⟩
    go_wp2_with fail
    refine (refZig_any n _ h0 h1).mono ?_
    rintro e w2 ⟨rfl, rfl⟩
    go_wp2_with fail
    refine (zag_any u _ hu).mono ?_
    rintro e w2 ⟨rfl, rfl⟩
    go_wp2_with fail
    refine (refZag_any u _ hu).mono ?_
    rintro e w2 ⟨rfl, rfl⟩
    go_wp2_with fail
    refine (zig_any n _ h0 h1).mono ?_
    rintro e w2 ⟨rfl, rfl⟩
    go_wp2_with fail
    refine (zag_any (zig n) _ hz).mono ?_
    rintro e w2 ⟨rfl, rfl⟩
    rw [zag_zig]
    go_wp2_with fail
    refine (zag_any u _ hu).mono ?_
    rintro e w2 ⟨rfl, rfl⟩
    go_wp2_with fail
    refine (zig_any (zag u) _ hza.1 hza.2).mono ?_
    rintro e w2 ⟨rfl, rfl⟩
    rw [zig_zag]
    go_wp2_with fail
    refine (int_any n _ h0 h1).mono ?_
    rintro e w2 ⟨rfl, hb2⟩
    go_wp2_with fail
    refine (refZig_any n _ h0 h1).mono ?_
    rintro e w3 ⟨rfl, rfl⟩
    go_wp2_with fail
    refine (refPut_any (zig n) _ hz).mono ?_
    rintro e w4 ⟨rfl, hb4⟩
    have hbb : Below w.heap.size w w4 := hb1.trans ((hb2.trans (hb4.mono hb2.size)).mono hb1.size)
    have hsz := hbb.size
    clear hb1 hb2 hb4
    have p0 : (put (zig n) == put (zig n)) = true := by simp
    have p1 : (zag x1 == zag x1) = true := by simp
    have p2 : ((x2 : Int) == x2) = true := by simp
    have p3 : (x3 == x3) = true := by simp
    go_wp2_with fail
    refine (refZag_any x1 _ hg).mono ?_
    rintro e w5 ⟨rfl, rfl⟩
    go_wp2_with fail
    refine (awake_any _).mono ?_
    rintro e w6 ⟨rfl, hb6⟩
    go_wp2_with fail
    go_ret
    exact ⟨rfl, hbb.trans (hb6.mono hsz)⟩
end Go.Proofs.Ytefhccegnjhhnaa.LSigns
