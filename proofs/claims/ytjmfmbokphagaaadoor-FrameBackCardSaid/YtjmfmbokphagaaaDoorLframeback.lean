/- FrameBack: what was framed is taken, all of it, in its order; whatever is behind, it stands at the front. Condition: the table that the program's text lays. -/
import Derived.Test.YtjmfmbokphagaaaDoorRows
import Derived.Test.YtjmfmbokphagaaaDoorGf
import Derived.Test.YtjmfmbokphagaaaDoorGh
import Derived.Lib.SliceRun
namespace Go.Proofs.YtjmfmbokphagaaaDoor.LFrameBack
open Go.RowKit Vi Cm

theorem elem_sl : Tryd.prog.elem 26 = 9 := by kernel_rfl
theorem size_of_st (W : World) : (sizeOf 9).run Tryd.prog W = .ok 1 W := by
  obtain ⟨i0, hi, _, hz1, _⟩ := info_parts info_st
  simp [sizeOf, typeInfo, hi, hz1]
theorem und_sl : Tryd.prog.underlying 26 = some (.slice (Tryd.prog.elem 26)) := by rw [elem_sl]; exact Tryd.underlying26
theorem slice_front (a : Option Addr) (n c k : Nat) (hk : k ≤ c) (W : World) : (Instr.slice 26 (.slice a n c) none (some (.int .i64 (k : Int))) none).run Tryd.prog W = .ok (.slice a k c) W := by
  rw [run_slice_h W _ a n c und_sl .i64 k (by omega) (by omega), elem_sl, size_of_st]
  simp [Result.andThen, sliced, Addr.add]
theorem StrS.front {w : World} {a : Option Addr} {ss L : List ByteArray} (h : StrS w a (ss ++ L).length (ss ++ L)) : StrS w a ss.length ss := by
  refine ⟨rfl, fun hp => ?_⟩
  obtain ⟨b, off, ha, hc⟩ := h.2 (by simp; omega)
  refine ⟨b, off, ha, fun k hk => ?_⟩
  rw [hc k (by simp; omega), List.getElem_append_left hk]
set_option maxHeartbeats 1000000 in
set_option maxRecDepth 100000 in
theorem walk (a : Option Addr) (len cap : Nat) (ss : List ByteArray) (s : ByteArray) (w : World) (hsl : StrS w a len ss) (hz : ∀ s ∈ ss, s.size ≤ maxLen) (hT : Tab w) :
    Calls Tryd.prog 9 #[.slice a len cap, .string s] w fun e w' => e = .returned (.bool true) ∧ Below w.heap.size w w' := by
  have HT := Lib.hid hT
  have HS := Lib.hid hsl
  have HF := Lib.hid (few14_any a len cap ss w hsl hz)
  clear hT hsl hz
  go_enter Tryd.func9, Tryd.ntmps9
  go_wp2_with fail
  refine HF.out.mono ?_
  rintro e w1 ⟨⟨b, rfl, hb⟩, rfl⟩
  clear HF
  cases b with
  | false =>
    clear hb
    go_wp2_with fail
    refine (awake14_any w HT.out).mono ?_
    rintro e w1 ⟨rfl, hb⟩
    have HB := Lib.hid hb
    clear hb
    go_wp2_with fail
    go_ret
    exact ⟨rfl, HB.out⟩
  | true =>
    obtain ⟨hle, hn⟩ := hb rfl
    have HN := Lib.hid hn
    clear hb hn
    by_cases hs : 1000 < s.size
    · have hd : decide ((1000 : Int) < (s.size : Int)) = true := decide_eq_true (by omega)
      clear hs
      go_wp2_with fail
      refine (awake14_any w HT.out).mono ?_
      rintro e w1 ⟨rfl, hb⟩
      have HB := Lib.hid hb
      clear hb
      go_wp2_with fail
      go_ret
      exact ⟨rfl, HB.out⟩
    have hd : decide ((1000 : Int) < (s.size : Int)) = false := decide_eq_false (by omega)
    have HSZ := Lib.hid hs
    clear hs
    go_wp2_with fail
    have h1 := row_any a len cap ss w HT.out HS.out hle HN.out
    by_cases hE : rowE ss = 0
    · obtain ⟨T, hTe⟩ : ∃ T : ByteArray, T = ⟨(catF ss).toArray⟩ := ⟨_, rfl⟩
      rw [rowV_ok ss hE, ← hTe] at h1
      have hTz : T.size = (catF ss).length := by rw [hTe]; rfl
      have hTl : T.size ≤ 6000 := by
        have h2 := catF_len ss
        have h3 := HN.out
        have h4 := HS.out.1
        omega
      have hB0 : rowB ss ⟨#[]⟩ = T := by
        unfold rowB
        rw [← hTe]
        apply ByteArray.ext
        simp
      have hB1 : rowB ss s = T ++ s := by unfold rowB; rw [← hTe]
      obtain ⟨L0, n0, e1, e2, e3⟩ := wh_row ss ⟨#[]⟩ hE
      obtain ⟨L1, n1, e4, e5, _⟩ := wh_row ss s hE
      have e3' := e3 rfl
      subst e3'
      rw [hB0, List.append_nil] at e1
      rw [hB1] at e4
      have hn0 : n0 = T.size := by
        have := wh_le T
        rw [e1] at this
        dsimp only at this
        omega
      subst hn0
      rw [← hTz] at e5
      have E1 := Lib.hid e1
      have E4 := Lib.hid e4
      have hTs : (T ++ s).size ≤ 7000 := by rw [ByteArray.size_append]; have := HSZ.out; omega
      have hLL : (ss ++ L1).length ≤ 7000 := by
        have := wh_len (T ++ s)
        rw [e4] at this
        exact Nat.le_trans this hTs
      have HLL := Lib.hid hLL
      have HTS := Lib.hid hTs
      have HE5 := Lib.hid e5
      have hn1 : n1 ≤ 7000 := by
        have := wh_le (T ++ s)
        rw [e4] at this
        exact Nat.le_trans this hTs
      have hTs2 : T.size + s.size ≤ 7000 := by rw [ByteArray.size_append] at hTs; exact hTs
      clear e1 e2 e3 e4 e5 hB0 hB1 hTe hTz hE hLL hTs
      refine h1.mono ?_
      clear h1
      rintro e w1 ⟨rfl, hb⟩
      have B1 := Lib.hid hb
      clear hb
      go_wp2_with fail
      have h2 := all_yes T w1 (by omega) (HT.out.later B1.out) (by rw [E1.out])
      rw [E1.out] at h2
      refine h2.mono ?_
      clear h2
      rintro e w2 ⟨a3, x3, rfl, s3, b2⟩
      have B2 := Lib.hid (B1.out.trans (b2.mono B1.out.size))
      have S3 := Lib.hid s3
      clear s3 b2 B1
      go_wp2_with fail
      have h3 := whole_any (T ++ s) w2 (by have := HTS.out; omega) (HT.out.later B2.out)
      rw [E4.out] at h3
      refine h3.mono ?_
      clear h3
      rintro e w3 ⟨a2, x2, rfl, s2, l2, m2, b3⟩
      have B3 := Lib.hid (B2.out.trans (b3.mono B2.out.size))
      have S3b := Lib.hid (S3.out.later b3)
      have S2 := Lib.hid (StrS.front s2)
      have hl := HS.out.1
      obtain ⟨M, hM⟩ : ∃ M, M = (ss ++ L1).length := ⟨_, rfl⟩
      have hM2 : ss.length ≤ M := by rw [hM]; simp
      rw [← hM] at l2 ⊢
      rw [hl] at S3b S2 hM2 ⊢
      have hsf := slice_front a2 M x2 len (by omega)
      have hdn : decide ((T.size : Int) ≤ (n1 : Int)) = true := decide_eq_true (by have := HE5.out; omega)
      have hdn2 : decide (T.size ≤ n1) = true := decide_eq_true (by have := HE5.out; omega)
      have hdm : decide ((len : Int) ≤ (M : Int)) = true := decide_eq_true (by omega)
      have hdm2 : decide (len ≤ M) = true := decide_eq_true hM2
      have SL := Lib.hid (HS.out.later B3.out)
      clear s2 m2 b3 S3 hM hl l2
      go_wp2_with fail
      refine (ttexts_below a3 x3 a cap len ss w3 S3b.out SL.out (by omega)).mono ?_
      rintro e w4 ⟨rfl, b4⟩
      have B4 := Lib.hid (B3.out.trans (b4.mono B3.out.size))
      have S2b := Lib.hid (S2.out.later b4)
      have SLb := Lib.hid (SL.out.later b4)
      clear b4 S3b S2 SL
      have hmn : min (len : Int) (M : Int) = (len : Int) := by omega
      go_wp2_with fail
      refine (ttexts_below a2 x2 a cap len ss w4 S2b.out SLb.out (by omega)).mono ?_
      rintro e w5 ⟨rfl, b5⟩
      have B5 := Lib.hid (B4.out.trans (b5.mono B4.out.size))
      clear b5 S2b SLb
      go_wp2_with fail
      refine (awake14_any w5 (HT.out.later B5.out)).mono ?_
      rintro e w6 ⟨rfl, b6⟩
      have B6 := Lib.hid (B5.out.trans (b6.mono B5.out.size))
      clear b6
      go_wp2_with fail
      go_ret
      exact ⟨rfl, B6.out⟩
    · obtain ⟨x, hx⟩ : ∃ x, rowE ss = x := ⟨_, rfl⟩
      rw [hx] at hE
      rw [rowV_no ss x hx hE] at h1
      have hd5 : (x != 0) = true := by simpa using hE
      have hd6 : (x == 0) = false := by simpa using hE
      clear hx hE
      refine h1.mono ?_
      clear h1
      rintro e w1 ⟨rfl, hb⟩
      have B1 := Lib.hid hb
      clear hb
      go_wp2_with fail
      refine (awake14_any w1 (HT.out.later B1.out)).mono ?_
      rintro e w2 ⟨rfl, hb⟩
      have B2 := Lib.hid (B1.out.trans (hb.mono B1.out.size))
      clear hb
      go_wp2_with fail
      go_ret
      exact ⟨rfl, B2.out⟩
end Go.Proofs.YtjmfmbokphagaaaDoor.LFrameBack
