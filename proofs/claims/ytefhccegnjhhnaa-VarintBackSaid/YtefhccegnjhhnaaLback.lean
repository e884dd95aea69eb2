/- VarintBack: for any two numbers of 64 bits and any text, a number comes back from its bytes, what is taken off a text is what stands there, and no number's bytes begin with another's. No condition. -/
import Derived.Test.YtefhccegnjhhnaaRows
import Derived.Test.YtefhccegnjhhnaaVawake
import Derived.Test.YtefhccegnjhhnaaVr
import Derived.Deep.RegionWith
import Derived.RegionTactic
import Derived.Deep.QuietTactic
import Derived.BigQuiet
import Derived.Lib.Split
import Derived.Lib.QuietBelow
namespace Go.Proofs.Ytefhccegnjhhnaa.LBack
open Go.RowKit Vi

theorem short_eq (n m : Nat) (hn : n < 18446744073709551616) (hm : m < 18446744073709551616) (k : Nat) (hk : k = min (put n).length (put m).length) (h : (put n).take k = (put m).take k) : n = m := by
  rcases Nat.le_total (put n).length (put m).length with hl | hl
  · rw [Nat.min_eq_left hl] at hk
    subst hk
    rw [List.take_length] at h
    refine put_inj (s := (put m).drop (put n).length) (t := []) hn hm ?_
    rw [h, List.append_nil]
    have := List.take_append_drop (put n).length (put m)
    rw [← h] at this
    rw [← h]; exact this
  · rw [Nat.min_eq_right hl] at hk
    subst hk
    rw [List.take_length] at h
    refine put_inj (s := []) (t := (put n).drop (put m).length) hn hm ?_
    rw [← h, List.append_nil]
    have := List.take_append_drop (put m).length (put n)
    rw [h] at this
    rw [h]; exact this.symm

theorem short_no (n m : Nat) (hn : n < 18446744073709551616) (hm : m < 18446744073709551616) (h : ¬ n = m) (k : Nat) (hk : k = min (put n).length (put m).length) :
    (((ByteArray.mk (put n).toArray).extract 0 k).toList == ((ByteArray.mk (put m).toArray).extract 0 k).toList) = false := by
  rw [ByteArray.toList_eq, Lib.extract_from_zero, ByteArray.toList_eq, Lib.extract_from_zero, beq_eq_false_iff_ne]
  exact fun e => h (short_eq n m hn hm k hk (by simpa using e))
theorem below_any {w w' : World} (h : ∃ p : Regrown, w' = Sort.grow (redrawn w p.d) p.os) : Below w.heap.size w w' := by
  obtain ⟨p, rfl⟩ := h
  exact below_regrown w p.d p.os

set_option maxHeartbeats 1600000 in
set_option maxRecDepth 100000 in
theorem walk (n m : Nat) (s : ByteArray) (w : World) (hn : (n : Int) ≤ 18446744073709551615) (hm : (m : Int) ≤ 18446744073709551615) (hs : s.size ≤ maxLen) :
    Calls Try.prog 4 #[.int .u64 n, .int .u64 m, .string s] w fun e w' => e = .returned (.bool true) ∧ Below w.heap.size w w' := by
  have hs2 := hs
  unfold maxLen at hs2
  by_cases hb : 1000 < (s.size : Int)
  · go_enter Try.func4, Try.ntmps4
    go_wp2_with fail
    refine (awake_any _).mono ?_
    rintro e w1 ⟨rfl, hb1⟩
    go_wp2_with fail
    go_ret
    exact ⟨rfl, hb1⟩
  · have hpl := put_len n
    have hg := gn_lt s.data.toList
    have hkl := gk_le s.data.toList
    have hd : (ByteArray.mk (put n).toArray ++ s).data.toList = put n ++ s.data.toList := by simp
    have hds : (ByteArray.mk (put n).toArray ++ s).size ≤ maxLen := by
      rw [ByteArray.size_append]; show (put n).toArray.size + _ ≤ _; simp; unfold maxLen; omega
    have HB := Lib.hid (gb_put n s.data.toList (by omega))
    have HD := Lib.hid hd
    clear hd
    go_enter Try.func4, Try.ntmps4
    go_wp2_with fail
    refine (put_any n _ hn).mono ?_
    rintro e w1 ⟨rfl, hb1⟩
    go_wp2_with fail
    refine (get_any _ _ hds).mono ?_
    rintro e w2 ⟨rfl, rfl⟩
    unfold gv
    rw [HD.out, HB.out.1, HB.out.2.1, HB.out.2.2]
    have q0 : ((n : Int) != (n : Int)) = false := by simp
    have q1 : (((put n).length : Int) != ((put n).length : Int)) = false := by simp
    go_wp2_with fail
    refine (get_any s _ hs).mono ?_
    rintro e w2 ⟨rfl, rfl⟩
    unfold gv
    clear q0 q1 HB HD hds
    have hdl : s.data.toList.length = s.size := by simp
    rw [hdl] at hkl
    clear hdl
    cases hgb : gb s.data.toList with
    | false =>
      generalize gn s.data.toList = x1 at *
      generalize gk s.data.toList = x2 at *
      clear hgb
      go_wp2_with fail
      refine wp_region_quiet_below (by kernel_rfl) (by kernel_rfl) ?_
      repeat (any_goals (first | go_big_quiet_step (fail) | quiet_step (fail)))
      refine wpQuiet_nil ?_
      intro w2 hw'
      have hb2 := below_any hw'
      clear hw'
      have hbb := hb1.trans (hb2.mono hb1.size)
      have hsz := hbb.size
      clear hb1 hb2
      by_cases hnm : n = m
      · subst hnm
        go_wp2_with fail
        refine (put_any n _ hm).mono ?_
        rintro e w3 ⟨rfl, hb3⟩
        go_wp2_with fail
        refine wp_region_quiet_below (by kernel_rfl) (by kernel_rfl) ?_
        repeat (any_goals (first | go_big_quiet_step ((go_at_call 8; exact Calls.regrown_of (awake_any _))) | quiet_step ((go_at_call 8; exact Calls.regrown_of (awake_any _)))))
        refine wpQuiet_nil ?_
        intro w4 hw'
        have hb4 := below_any hw'
        clear hw'
        go_wp2
        go_ret
        exact ⟨rfl, hbb.trans ((hb3.trans (hb4.mono hb3.size)).mono hsz)⟩
      · have hne : ((n : Int) == (m : Int)) = false := by simp; omega
        have hk := short_no n m (by omega) (by omega) hnm
        rcases Nat.lt_trichotomy (put n).length (put m).length with hlen | hlen | hlen
        · have hz := hk (put n).length (by omega)
          clear hk
          go_wp2_with fail
          refine (put_any m _ hm).mono ?_
          rintro e w3 ⟨rfl, hb3⟩
          go_wp2_with fail
          refine wp_region_quiet_below (by kernel_rfl) (by kernel_rfl) ?_
          repeat (any_goals (first | go_big_quiet_step ((go_at_call 8; exact Calls.regrown_of (awake_any _))) | quiet_step ((go_at_call 8; exact Calls.regrown_of (awake_any _)))))
          refine wpQuiet_nil ?_
          intro w4 hw'
          have hb4 := below_any hw'
          clear hw'
          go_wp2
          go_ret
          exact ⟨rfl, hbb.trans ((hb3.trans (hb4.mono hb3.size)).mono hsz)⟩
        · have hz := hk (put n).length (by omega)
          have hz2 := hk (put m).length (by omega)
          have hle1 : (put n).length ≤ (put m).length := by omega
          have hle2 : (put m).length ≤ (put n).length := by omega
          clear hk hlen
          go_wp2_with fail
          refine (put_any m _ hm).mono ?_
          rintro e w3 ⟨rfl, hb3⟩
          go_wp2_with fail
          refine wp_region_quiet_below (by kernel_rfl) (by kernel_rfl) ?_
          repeat (any_goals (first | go_big_quiet_step ((go_at_call 8; exact Calls.regrown_of (awake_any _))) | quiet_step ((go_at_call 8; exact Calls.regrown_of (awake_any _)))))
          refine wpQuiet_nil ?_
          intro w4 hw'
          have hb4 := below_any hw'
          clear hw'
          go_wp2
          go_ret
          exact ⟨rfl, hbb.trans ((hb3.trans (hb4.mono hb3.size)).mono hsz)⟩
        · have hz := hk (put m).length (by omega)
          clear hk
          go_wp2_with fail
          refine (put_any m _ hm).mono ?_
          rintro e w3 ⟨rfl, hb3⟩
          go_wp2_with fail
          refine wp_region_quiet_below (by kernel_rfl) (by kernel_rfl) ?_
          repeat (any_goals (first | go_big_quiet_step ((go_at_call 8; exact Calls.regrown_of (awake_any _))) | quiet_step ((go_at_call 8; exact Calls.regrown_of (awake_any _)))))
          refine wpQuiet_nil ?_
          intro w4 hw'
          have hb4 := below_any hw'
          clear hw'
          go_wp2
          go_ret
          exact ⟨rfl, hbb.trans ((hb3.trans (hb4.mono hb3.size)).mono hsz)⟩
    | true =>
      have hst : put (gn s.data.toList) = s.data.toList.take (gk s.data.toList) := by
        unfold gb at hgb; unfold gn gk
        cases hq : Vi.get s.data.toList with
        | none => simp [hq] at hgb
        | some p =>
          obtain ⟨a, b⟩ := p
          obtain ⟨t, h1, h2, _⟩ := get_some hq
          simp only
          rw [h1, h2, List.take_left]
      have hgt : ((gk s.data.toList : Int) ≤ s.size) := by omega
      have HS := Lib.hid hst
      clear hst hgb
      generalize gn s.data.toList = x1 at *
      generalize gk s.data.toList = x2 at *
      have hgd : decide (s.size < x2) = false := by simp; omega
      have hgd2 : decide ((s.size : Int) < (x2 : Int)) = false := by simp; omega
      have hw2 : 0 ≤ (x2 : Int) := by omega
      have hw3 : (x2 : Int).toNat = x2 := by omega
      go_wp2_with fail
      refine wp_region_quiet_below (by kernel_rfl) (by kernel_rfl) ?_
      repeat (any_goals (first | go_big_quiet_step ((go_at_call 11; exact Calls.regrown_of (put_any x1 _ hg))) | quiet_step ((go_at_call 11; exact Calls.regrown_of (put_any x1 _ hg)))))
      refine wpQuiet_nil ?_
      intro w2 hw'
      have hb2 := below_any hw'
      clear hw'
      have hbb := hb1.trans (hb2.mono hb1.size)
      have hsz := hbb.size
      clear hb1 hb2
      have hq : (!put x1 == (s.extract 0 x2).toList) = false := by rw [HS.out, ByteArray.toList_eq, Lib.extract_from_zero]; simp
      have HQ := Lib.hid hq
      clear HS hgd hgd2 hw2 hw3 hq
      by_cases hnm : n = m
      · subst hnm
        go_wp2_with fail
        · exact absurd (show (!put x1 == (s.extract 0 x2).toList) = true by assumption) (by rw [HQ.out]; simp)
        refine (put_any n _ hm).mono ?_
        rintro e w3 ⟨rfl, hb3⟩
        go_wp2_with fail
        refine wp_region_quiet_below (by kernel_rfl) (by kernel_rfl) ?_
        repeat (any_goals (first | go_big_quiet_step ((go_at_call 8; exact Calls.regrown_of (awake_any _))) | quiet_step ((go_at_call 8; exact Calls.regrown_of (awake_any _)))))
        refine wpQuiet_nil ?_
        intro w4 hw'
        have hb4 := below_any hw'
        clear hw'
        go_wp2
        go_ret
        exact ⟨rfl, hbb.trans ((hb3.trans (hb4.mono hb3.size)).mono hsz)⟩
      · have hne : ((n : Int) == (m : Int)) = false := by simp; omega
        have hk := short_no n m (by omega) (by omega) hnm
        rcases Nat.lt_trichotomy (put n).length (put m).length with hlen | hlen | hlen
        · have hz := hk (put n).length (by omega)
          clear hk
          go_wp2_with fail
          · exact absurd (show (!put x1 == (s.extract 0 x2).toList) = true by assumption) (by rw [HQ.out]; simp)
          refine (put_any m _ hm).mono ?_
          rintro e w3 ⟨rfl, hb3⟩
          go_wp2_with fail
          refine wp_region_quiet_below (by kernel_rfl) (by kernel_rfl) ?_
          repeat (any_goals (first | go_big_quiet_step ((go_at_call 8; exact Calls.regrown_of (awake_any _))) | quiet_step ((go_at_call 8; exact Calls.regrown_of (awake_any _)))))
          refine wpQuiet_nil ?_
          intro w4 hw'
          have hb4 := below_any hw'
          clear hw'
          go_wp2
          go_ret
          exact ⟨rfl, hbb.trans ((hb3.trans (hb4.mono hb3.size)).mono hsz)⟩
        · have hz := hk (put n).length (by omega)
          have hz2 := hk (put m).length (by omega)
          have hle1 : (put n).length ≤ (put m).length := by omega
          have hle2 : (put m).length ≤ (put n).length := by omega
          clear hk hlen
          go_wp2_with fail
          · exact absurd (show (!put x1 == (s.extract 0 x2).toList) = true by assumption) (by rw [HQ.out]; simp)
          refine (put_any m _ hm).mono ?_
          rintro e w3 ⟨rfl, hb3⟩
          go_wp2_with fail
          refine wp_region_quiet_below (by kernel_rfl) (by kernel_rfl) ?_
          repeat (any_goals (first | go_big_quiet_step ((go_at_call 8; exact Calls.regrown_of (awake_any _))) | quiet_step ((go_at_call 8; exact Calls.regrown_of (awake_any _)))))
          refine wpQuiet_nil ?_
          intro w4 hw'
          have hb4 := below_any hw'
          clear hw'
          go_wp2
          go_ret
          exact ⟨rfl, hbb.trans ((hb3.trans (hb4.mono hb3.size)).mono hsz)⟩
        · have hz := hk (put m).length (by omega)
          clear hk
          go_wp2_with fail
          · exact absurd (show (!put x1 == (s.extract 0 x2).toList) = true by assumption) (by rw [HQ.out]; simp)
          refine (put_any m _ hm).mono ?_
          rintro e w3 ⟨rfl, hb3⟩
          go_wp2_with fail
          refine wp_region_quiet_below (by kernel_rfl) (by kernel_rfl) ?_
          repeat (any_goals (first | go_big_quiet_step ((go_at_call 8; exact Calls.regrown_of (awake_any _))) | quiet_step ((go_at_call 8; exact Calls.regrown_of (awake_any _)))))
          refine wpQuiet_nil ?_
          intro w4 hw'
          have hb4 := below_any hw'
          clear hw'
          go_wp2
          go_ret
          exact ⟨rfl, hbb.trans ((hb3.trans (hb4.mono hb3.size)).mono hsz)⟩
end Go.Proofs.Ytefhccegnjhhnaa.LBack
