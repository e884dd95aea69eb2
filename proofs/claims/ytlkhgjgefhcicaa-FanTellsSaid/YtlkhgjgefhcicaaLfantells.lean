/- FanTells: any sums' fan, or why there is none, and where each part's stand, is as the document says. No condition. -/
import Derived.Test.YtlkhgjgefhcicaaRows
import Derived.Test.YtlkhgjgefhcicaaFw
namespace Go.Proofs.Ytlkhgjgefhcicaa
open Go.RowKit Vi

set_option maxRecDepth 100000 in
set_option maxHeartbeats 1600000 in
theorem of_wrong (Z : Array Value) (HZ0 : Hid (Z = Array.replicate 16 (.int .i64 0)))
    (a : Option Addr) (len cap : Nat) (ss : List ByteArray) (z : Int) (w : World) (hsl : SlN w a len ss) (hlm : len ≤ 100000) (hz : z = wR ⟨#[]⟩ ss) (hz0 : ¬ z = 0) :
    Calls Try.prog 28 #[.slice a len cap] w fun e w' => e = .returned (.tuple #[.agg Z, .int .i64 z]) ∧ Below w.heap.size w w' := by
  have HSL := Lib.hid hsl
  have HZ := Lib.hid hz
  have q0 : (z != 0) = true := by simpa using hz0
  clear hsl hz
  go_enter Try.func28, Try.ntmps28
  go_wp2_with fail
  refine (fcheck_any a len cap ss _ (HSL.out.later ((Below.refl _ w).alloc (Nat.le_refl _) _)) (by unfold maxLen; omega)).mono ?_
  rintro e w' ⟨rfl, rfl⟩
  rw [← HZ.out]
  go_wp2_with fail
  refine bodyPost_ret (results_cell_tmp rfl _ _ w.heap.size _ rfl (run_loadVar_row _ w.heap.size 38 38 _ (0, 0) _ (heap_alloc_new w _) Try.underlying38 rfl (by kernel_rfl))) rfl ?_
  exact ⟨by rw [HZ0.out]; rfl, (Below.refl _ w).alloc (Nat.le_refl _) _⟩
theorem blk_later {w w' : World} {b : Nat} {o : Obj} (h : w.heap[b]? = some o) (hb : Below w.heap.size w w') : w'.heap[b]? = some o := (hb.block b (Array.getElem?_eq_some_iff.1 h).1).trans h
theorem uptoI_from (ss : List ByteArray) (p : Nat) : uptoI ss ((p : Int) - 1) = fromN ss p := by
  unfold fromN
  rcases Nat.eq_zero_or_pos p with h | h
  · subst h
    rw [if_pos rfl]
    exact uptoI_neg ss
  · rw [if_neg (by omega), ← uptoI_nat, show ((p - 1 : Nat) : Int) = (p : Int) - 1 by omega]
end Go.Proofs.Ytlkhgjgefhcicaa
namespace Go.Proofs.Ytlkhgjgefhcicaa.LFanTells
open Go.RowKit Vi

set_option maxRecDepth 100000 in
set_option maxHeartbeats 6400000 in
theorem walk (a : Option Addr) (len cap : Nat) (ss : List ByteArray) (kk : Int) (w : World) (hsl : SlN w a len ss) (hlc : len ≤ cap) (hcm : cap ≤ maxLen) (hss : ∀ s ∈ ss, s.size ≤ maxLen) (hk0 : -9223372036854775808 ≤ kk) (hk1 : kk ≤ 9223372036854775807) :
    Calls Try.prog 6 #[.slice a len cap, .int .i64 kk] w fun e w' => e = .returned (.bool true) ∧ Below w.heap.size w w' := by
  have hcm2 := hcm
  unfold maxLen at hcm2
  have HSL := Lib.hid hsl
  have HSS := Lib.hid hss
  have HLN := Lib.hid hsl.1
  clear hsl hss
  by_cases g2 : len ≤ 100
  rotate_left
  · go_enter Try.func6, Try.ntmps6
    go_wp2_with fail
    refine (few12_no a len cap w g2 (by omega)).mono ?_
    rintro e w' ⟨rfl, rfl⟩
    go_wp2_with fail
    refine (fanAwake_any _).mono ?_
    rintro e wz ⟨rfl, hbz⟩
    go_wp2
    go_ret
    exact ⟨rfl, hbz⟩
  obtain ⟨z, hz⟩ : ∃ z, z = wR ⟨#[]⟩ ss := ⟨_, rfl⟩
  have HZ := Lib.hid hz
  by_cases g3 : z = 0
  rotate_left
  · obtain ⟨Z, HZ0, HZS, HZI, HZO, _, HEQ⟩ := fan_zero
    have HOF := Lib.hid (of_wrong Z HZ0 a len cap ss z w HSL.out (by omega) hz g3)
    have q0 : (z != 0) = true := by simpa using g3
    have q1 : (z == 0) = false := by simpa using g3
    have heq := HEQ.out
    clear hz
    go_enter Try.func6, Try.ntmps6
    go_wp2_with fail
    refine (few12_any a len cap ss w HSL.out g2 HSS.out).mono ?_
    rintro e w' ⟨d, rfl, rfl⟩
    cases d with
    | false =>
      go_wp2_with fail
      refine (fanAwake_any _).mono ?_
      rintro e wz ⟨rfl, hbz⟩
      go_wp2
      go_ret
      exact ⟨rfl, hbz⟩
    | true =>
      go_wp2_with fail
      refine HOF.out.mono ?_
      rintro e w2 ⟨rfl, hb2⟩
      have HB2 := Lib.hid hb2
      clear hb2
      go_wp2_with ((refine wpList_store_rowN rfl 38 (.tmp 5) (.tmp 18) rfl w2.heap.size Z rfl rfl 38 _ (heap_alloc_new w2 _) HZI.out (by rw [HZS.out]; simp) HZO.out w.heap.size w (HB2.out.alloc HB2.out.size _) HB2.out.size ?_); intro w3 HC3 HB3)
      refine (refWrong_any a len cap ss _ (HSL.out.later HB3.out) (by unfold maxLen; omega)).mono ?_
      rintro e w' ⟨rfl, q, rfl⟩
      rw [← HZ.out]
      have HB4 := Lib.hid (bel_drewN2 HB3.out q)
      go_wp2_with fail
      refine (fcheck_any a len cap ss _ (SlN.later HSL.out (bel_drewN2 HB3.out q)) (by unfold maxLen; omega)).mono ?_
      rintro e w' ⟨rfl, rfl⟩
      rw [← HZ.out]
      go_wp2_with (refine wpList_load_row rfl 38 (.tmp 5) rfl w2.heap.size rfl 38 Z (0, 0) _ HC3.out Try.underlying38 rfl HZI.out ?_)
      refine (fanAwake_any _).mono ?_
      rintro e wz ⟨rfl, hbz⟩
      go_wp2
      go_ret
      exact ⟨rfl, HB4.out.trans (hbz.mono HB4.out.size)⟩
  have hok : wR ⟨#[]⟩ ss = 0 := hz.symm.trans g3
  obtain ⟨h32, hri⟩ := sum0_ok ss hok
  clear hz
  subst g3
  have HOK := Lib.hid hok
  have H32 := Lib.hid h32
  clear hok h32 hri
  obtain ⟨C, HCC, HIN, HSZ, HON, HA⟩ := fan_cells ss
  have HFB := Lib.hid (show ∀ j, j < 16 → (fanL ss).getD j 0 ≤ 100000 from fun j hj => by
    have h1 := fanL_at ss j hj
    have h2 := upto_le ss j
    rw [HLN.out] at h2
    omega)
  go_enter Try.func6, Try.ntmps6
  go_wp2_with fail
  refine (few12_any a len cap ss w HSL.out g2 HSS.out).mono ?_
  rintro e w' ⟨d, rfl, rfl⟩
  cases d with
  | false =>
    go_wp2_with fail
    refine (fanAwake_any _).mono ?_
    rintro e wz ⟨rfl, hbz⟩
    go_wp2
    go_ret
    exact ⟨rfl, hbz⟩
  | true =>
    go_wp2_with fail
    refine (of_valid a len cap ss _ HSL.out (by omega) HOK.out).mono ?_
    rintro e w2 ⟨rfl, hb2⟩
    rw [← HCC.out]
    have HB2 := Lib.hid hb2
    clear hb2
    go_wp2_with ((refine wpList_store_rowN rfl 38 (.tmp 5) (.tmp 18) rfl w2.heap.size C rfl rfl 38 _ (heap_alloc_new w2 _) HIN.out (by rw [HSZ.out]; simp) HON.out w.heap.size w (HB2.out.alloc HB2.out.size _) HB2.out.size ?_); intro w3 HC3 HB3)
    refine (refWrong_any a len cap ss _ (HSL.out.later HB3.out) (by unfold maxLen; omega)).mono ?_
    rintro e w' ⟨rfl, q, rfl⟩
    rw [← HZ.out]
    go_wp2_with fail
    refine (fcheck_any a len cap ss _ (SlN.later HSL.out (bel_drewN2 HB3.out q)) (by unfold maxLen; omega)).mono ?_
    rintro e w' ⟨rfl, rfl⟩
    rw [← HZ.out]
    obtain ⟨b, hb⟩ : ∃ b, b = w2.heap.size := ⟨_, rfl⟩
    rw [← hb] at HC3 ⊢
    have HST := Lib.hid (show (w3.drewN q).heap[b]? = some (.cells C 38 (0, 0)) ∧ Below w.heap.size w (w3.drewN q) from ⟨HC3.out, bel_drewN2 HB3.out q⟩)
    clear hb
    go_wp2_with fail
    go_loopw [7, 8, 38] (fun v _ i wr => ∃ (k : Nat) (S : ByteArray), k ≤ 16 ∧ i = .int .i64 (k : Int) ∧ v = .string S ∧ S = ⟨(catN ((fanL ss).take k)).toArray⟩ ∧ wr.heap[b]? = some (.cells C 38 (0, 0)) ∧ Below w.heap.size w wr) (fun _ _ i _ => 16 - (intOf i).toNat)
    case atStart => exact ⟨0, ⟨#[]⟩, Nat.zero_le _, rfl, rfl, rfl, HST.out.1, HST.out.2⟩
    case round =>
      clear HST HC3 HB3 HB2
      obtain ⟨k, S, hk, rfl, rfl, hS, hbk, hbw⟩ := hrel
      have HB := Lib.hid hbw
      have HC := Lib.hid hbk
      clear hbw hbk
      by_cases hlt : k < 16
      · have hsz : (S.size : Int) ≤ 160 := by
          have h1 := catN_len ((fanL ss).take k)
          rw [List.length_take, fanL_len] at h1
          have h2 : S.size = (catN ((fanL ss).take k)).length := by rw [hS]; simp [ByteArray.size]
          omega
        obtain ⟨y, hy⟩ : ∃ y, y = (fanL ss).getD k 0 := ⟨_, rfl⟩
        have hyb := HFB.out k hlt
        rw [← hy] at hyb
        have hyu : y = upto ss k := by rw [hy]; exact fanL_at ss k hlt
        have cy := (cell_of_row _ _ k _ _ _ HC.out).trans (HA.out k hlt)
        rw [← hyu] at cy
        have HUP := Lib.hid (fun (n : Nat) => refUpto_any a len cap ss (k : Int) (wr.drewN n) (SlN.later HSL.out (bel_drewN2 HB.out n)) (by omega) H32.out)
        rw [uptoI_nat, ← hyu] at HUP
        have HN := Lib.hid (show S ++ ⟨(put y).toArray⟩ = (⟨(catN ((fanL ss).take (k + 1))).toArray⟩ : ByteArray) by
          rw [hS, str_app, catN_take (fanL ss) k (by rw [fanL_len]; exact hlt), hy])
        have hpl := put_len y
        have i0 : 0 ≤ (k : Int) := by omega
        have i1 : (k : Int) < 16 := by omega
        clear hS hy hyu
        go_wp2_with fail
        go_quiet ((go_at_call 31; exact Calls.quiet_of_same (HUP.out _)))
        go_wp2_with fail
        refine (refPutNum_any (y : Int) _ (by omega)).mono ?_
        rintro e w1 ⟨rfl, hb1⟩
        rw [Int.toNat_natCast]
        have hb1' : Below wr.heap.size wr w1 := (bel_drewN2 (Below.refl _ wr) _).trans hb1
        have HB1 := Lib.hid (HB.out.trans (hb1'.mono HB.out.size))
        have HC1 := Lib.hid (blk_later HC.out hb1')
        have hps : (ByteArray.size ⟨(put y).toArray⟩ : Int) ≤ 10 := by simp [ByteArray.size]; omega
        obtain ⟨P, hP⟩ : ∃ P : ByteArray, P = ⟨(put y).toArray⟩ := ⟨_, rfl⟩
        rw [← hP] at HN hps ⊢
        clear hb1 hb1' hP hpl cy
        go_wp2_with fail
        go_roundw
        case rel => exact ⟨k + 1, _, by omega, by go_num, rfl, HN.out, HC1.out, HB1.out⟩
        case measure => simp [intOf]; omega
      · obtain rfl : k = 16 := by omega
        have HS := Lib.hid (show S = ⟨(catN (fanL ss)).toArray⟩ by rw [hS, List.take_of_length_le (by rw [fanL_len]; exact Nat.le_refl _)])
        have qS : (S.toList == S.toList) = true := by simp
        clear hS hk hlt
        by_cases hk : kk < 0 ∨ 15 < kk
        · by_cases h0 : kk < 0
          rotate_left
          have h15 : 15 < kk := by omega
          all_goals
            go_wp2_with (refine wpList_load_row rfl 38 (.tmp 5) rfl b rfl 38 C (0, 0) _ HC.out Try.underlying38 rfl HIN.out ?_)
            refine (span_out C kk _ hk).mono ?_
            rintro e w5 ⟨rfl, hb5⟩
            have HC5 := Lib.hid (blk_later HC.out hb5)
            have HB5 := Lib.hid (HB.out.trans (hb5.mono HB.out.size))
            clear hb5
            go_wp2_with (refine wpList_load_rowG (by rfl) 38 (.tmp 5) rfl b rfl 38 C (0, 0) _ HC5.out Try.underlying38 rfl HIN.out ?_)
            refine (fput_any (fanL ss) C HCC.out (fanL_len ss) HFB.out _).mono ?_
            rintro e w6 ⟨rfl, hb6⟩
            rw [← HS.out]
            have HB6 := Lib.hid (HB5.out.trans (hb6.mono HB5.out.size))
            clear hb6
            go_wp2_with fail
            refine (fanAwake_any _).mono ?_
            rintro e wz ⟨rfl, hbz⟩
            go_wp2
            go_ret
            exact ⟨rfl, HB6.out.trans (hbz.mono HB6.out.size)⟩
        · obtain ⟨p, rfl⟩ : ∃ p : Nat, kk = (p : Int) := ⟨kk.toNat, by omega⟩
          have hp : p < 16 := by omega
          have hy := HA.out p hp
          have hf : (p = 0 ∧ fromN ss p = 0) ∨ (0 < p ∧ C[p - 1]? = some (.int .i64 (fromN ss p : Int))) := by
            rcases Nat.eq_zero_or_pos p with h0 | h0
            · exact .inl ⟨h0, by unfold fromN; rw [if_pos h0]⟩
            · refine .inr ⟨h0, ?_⟩
              rw [HA.out (p - 1) (by omega)]
              unfold fromN
              rw [if_neg (by omega)]
          have U1 := Lib.hid (fun (W : World) (h : SlN W a len ss) => refUpto_any a len cap ss ((p : Int) - 1) W h (by omega) H32.out)
          have U2 := Lib.hid (fun (W : World) (h : SlN W a len ss) => refUpto_any a len cap ss (p : Int) W h (by omega) H32.out)
          rw [uptoI_from] at U1
          rw [uptoI_nat] at U2
          obtain ⟨x, hx⟩ : ∃ x, x = fromN ss p := ⟨_, rfl⟩
          obtain ⟨y, hy2⟩ : ∃ y, y = upto ss p := ⟨_, rfl⟩
          rw [← hx] at hf U1
          rw [← hy2] at hy U2
          have HSP := Lib.hid (fun W => span_any C p x y W hp hy hf)
          have p0 : 0 ≤ (p : Int) := by omega
          have p1 : (p : Int) ≤ 15 := by omega
          clear hx hy2 hf hy hk
          go_wp2_with (refine wpList_load_row rfl 38 (.tmp 5) rfl b rfl 38 C (0, 0) _ HC.out Try.underlying38 rfl HIN.out ?_)
          refine (HSP.out _).mono ?_
          rintro e w5 ⟨rfl, hb5⟩
          have HC5 := Lib.hid (blk_later HC.out hb5)
          have HB5 := Lib.hid (HB.out.trans (hb5.mono HB.out.size))
          clear hb5
          go_wp2_with fail
          refine (U1.out _ (HSL.out.later HB5.out)).mono ?_
          rintro e w' ⟨rfl, rfl⟩
          go_wp2_with fail
          refine (U2.out _ (HSL.out.later HB5.out)).mono ?_
          rintro e w' ⟨rfl, rfl⟩
          go_wp2_with (refine wpList_load_rowG (by rfl) 38 (.tmp 5) rfl b rfl 38 C (0, 0) _ HC5.out Try.underlying38 rfl HIN.out ?_)
          refine (fput_any (fanL ss) C HCC.out (fanL_len ss) HFB.out _).mono ?_
          rintro e w6 ⟨rfl, hb6⟩
          rw [← HS.out]
          have HB6 := Lib.hid (HB5.out.trans (hb6.mono HB5.out.size))
          clear hb6
          go_wp2_with fail
          refine (fanAwake_any _).mono ?_
          rintro e wz ⟨rfl, hbz⟩
          go_wp2
          go_ret
          exact ⟨rfl, HB6.out.trans (hbz.mono HB6.out.size)⟩
end Go.Proofs.Ytlkhgjgefhcicaa.LFanTells
