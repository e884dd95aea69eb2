/- ScanBack: what was put, a number, a text, a number of either sign and a rest, is read as it was, to the end. No condition. -/
import Derived.Test.YtefhccegnjhhnabRows
import Derived.Test.YtefhccegnjhhnabSawake
import Derived.Test.YtefhccegnjhhnabSput
import Derived.Test.YtefhccegnjhhnabSb
namespace Go.Proofs.Ytefhccegnjhhnab.LScanBack
open Go.RowKit Vi

set_option maxHeartbeats 1600000 in
set_option maxRecDepth 100000 in
theorem walk (n m : Int) (s t : ByteArray) (w : World) (hn0 : -9223372036854775808 ≤ n) (hn1 : n ≤ 9223372036854775807) (hm0 : -9223372036854775808 ≤ m) (hm1 : m ≤ 9223372036854775807) (hs : s.size ≤ maxLen) (ht : t.size ≤ maxLen) :
    Calls Try.prog 3 #[.int .i64 n, .int .i64 m, .string s, .string t] w fun e w' => e = .returned (.bool true) ∧ Below w.heap.size w w' := by
  have hs2 := hs
  have ht2 := ht
  unfold maxLen at hs2 ht2
  by_cases hb : 500 < (s.size : Int)
  · go_enter Try.func3, Try.ntmps3
    go_wp2_with fail
    refine (awake4_any _).mono ?_
    rintro e w1 ⟨rfl, hb1⟩
    go_wp2_with fail
    go_ret
    exact ⟨rfl, hb1⟩
  by_cases hbt : 500 < (t.size : Int)
  · go_enter Try.func3, Try.ntmps3
    go_wp2_with fail
    refine (awake4_any _).mono ?_
    rintro e w1 ⟨rfl, hb1⟩
    go_wp2_with fail
    go_ret
    exact ⟨rfl, hb1⟩
  have hp1 := put_len n.toNat
  have hp2 := put_len s.size
  have hp3 := put_len (zig m)
  have hz := zig_le m hm0 hm1
  go_enter Try.func3, Try.ntmps3
  go_wp2_with fail
  refine (putNum_any n _ hn1).mono ?_
  rintro e w1 ⟨rfl, hb1⟩
  go_wp2_with fail
  refine (putText_any s _ (by omega)).mono ?_
  rintro e w2 ⟨rfl, k⟩
  have hb2 := hb1.trans (k.mono hb1.size)
  clear hb1 k
  go_wp2_with fail
  refine (putInt_any m _ hm0 hm1).mono ?_
  rintro e w3 ⟨rfl, k⟩
  have hb3 := hb2.trans (k.mono hb2.size)
  clear hb2 k
  go_wp2_with fail
  refine (refPutNum_any n _ hn1).mono ?_
  rintro e w4 ⟨rfl, k⟩
  have hb4 := hb3.trans (k.mono hb3.size)
  clear hb3 k
  go_wp2_with fail
  refine (refPutText_any s _ (by omega)).mono ?_
  rintro e w5 ⟨rfl, k⟩
  have hb5 := hb4.trans (k.mono hb4.size)
  clear hb4 k
  go_wp2_with fail
  refine (refZig_any m _ hm0 hm1).mono ?_
  rintro e w6 ⟨rfl, rfl⟩
  go_wp2_with fail
  refine (refPut_any (zig m) _ hz).mono ?_
  rintro e w7 ⟨rfl, k⟩
  have hb7 := hb5.trans (k.mono hb5.size)
  clear hb5 k
  go_wp2_with fail
  generalize hN : n.toNat = N at *
  have hNb : (N : Int) ≤ 9223372036854775807 := by omega
  have HN := Lib.hid hN
  clear hN
  have hps : (packed N (zig m) s t).size ≤ 1000000 := by rw [packed_size]; omega
  have hsz := packed_size N (zig m) s t
  have HSZ := Lib.hid hsz
  clear hsz
  have g0 := gb_put2 N (put s.size ++ (s.data.toList ++ (put (zig m) ++ t.data.toList))) (by omega)
  have g1 := gb_put2 s.size (s.data.toList ++ (put (zig m) ++ t.data.toList)) (by omega)
  have g3 := gb_put2 (zig m) t.data.toList hz
  rw [← packed_0 N (zig m) s t] at g0
  rw [← packed_1 N (zig m) s t] at g1
  rw [← packed_3 N (zig m) s t] at g3
  have G0 := Lib.hid g0
  have G1 := Lib.hid g1
  have G3 := Lib.hid g3
  clear g0 g1 g3
  refine (new_any (packed N (zig m) s t) w7).mono ?_
  rintro e w8 ⟨rfl, hs8, k⟩
  have hb8 := hb7.trans (k.mono hb7.size)
  have hB := hb7.size
  clear hb7 k
  generalize w7.heap.size = B at *
  go_wp2_with fail
  refine (num_yes w8 B (packed N (zig m) s t) 0 9223372036854775807 hps (by omega) hs8 G0.out.1 (by omega) (by omega) (by rw [G0.out.2.1]; omega)).mono ?_
  rintro e w9 ⟨rfl, hs9, k⟩
  rw [G0.out.2.2] at hs9
  rw [G0.out.2.1]
  have hb9 := But.below hb8 k hB hb8.size
  clear hb8 k hs8
  go_wp2_with fail
  refine (text_yes w9 B (packed N (zig m) s t) (0 + (put N).length) (s.size : Int) hps (by rw [HSZ.out]; omega) hs9 G1.out.1 (by omega) (by omega) (by rw [G1.out.2.1]; omega) (by rw [G1.out.2.1, G1.out.2.2, HSZ.out]; omega)).mono ?_
  rintro e w10 ⟨rfl, hs10, k⟩
  rw [G1.out.2.1, G1.out.2.2] at hs10
  rw [G1.out.2.1, G1.out.2.2, packed_text]
  have hb10 := But.below hb9 k hB hb9.size
  clear hb9 k hs9
  go_wp2_with fail
  refine (int_yes w10 B (packed N (zig m) s t) (0 + (put N).length + (put s.size).length + s.size) hps (by rw [HSZ.out]; omega) hs10 G3.out.1).mono ?_
  rintro e w11 ⟨rfl, hs11, k⟩
  rw [G3.out.2.2] at hs11
  rw [G3.out.2.1, zag_zig]
  have hb11 := But.below hb10 k hB hb10.size
  clear hb10 k hs10
  go_wp2_with fail
  refine (rest_yes w11 B (packed N (zig m) s t) (0 + (put N).length + (put s.size).length + s.size + (put (zig m)).length) hps (by rw [HSZ.out]; omega) hs11).mono ?_
  rintro e w12 ⟨rfl, hs12, k⟩
  rw [packed_rest]
  have hb12 := But.below hb11 k hB hb11.size
  clear hb11 k hs11
  have q1 : (m == m) = true := by simp
  have q2 : (s.toList == s.toList) = true := by simp
  have q3 : (t.toList == t.toList) = true := by simp
  have hcase : (0 < n ∧ n = N) ∨ (n = 0 ∧ N = 0) ∨ (n < 0 ∧ N = 0) := by have := HN.out; omega
  clear G0 G1 G3 HSZ HN
  rcases hcase with ⟨h1, h2⟩ | ⟨h1, h2⟩ | ⟨h1, h2⟩
  all_goals
    first | subst h1 | skip
    first | subst h2 | skip
    go_wp2_with fail
    refine (end_yes w12 B (packed _ (zig m) s t) hs12 hps).mono ?_
    rintro e w13 ⟨rfl, hs13, k⟩
    have hb13 := But.below hb12 k hB hb12.size
    go_wp2_with fail
    refine (awake4_any w13).mono ?_
    rintro e w14 ⟨rfl, k⟩
    have hb14 := hb13.trans (k.mono hb13.size)
    go_wp2_with fail
    go_ret
    exact ⟨rfl, hb14⟩
end Go.Proofs.Ytefhccegnjhhnab.LScanBack
