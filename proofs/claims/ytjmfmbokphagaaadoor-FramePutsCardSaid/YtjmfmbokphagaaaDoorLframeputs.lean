/- FramePuts: any texts' frames, or why there are none, and how long they are. Condition: the table that the program's text lays. -/
import Derived.Test.YtjmfmbokphagaaaDoorRows
import Derived.Test.YtjmfmbokphagaaaDoorGw
namespace Go.Proofs.YtjmfmbokphagaaaDoor.LFramePuts
open Go.RowKit Vi Cm

set_option maxHeartbeats 4000000 in
set_option maxRecDepth 100000 in
theorem walk (a : Option Addr) (len cap : Nat) (ss : List ByteArray) (w : World) (hsl : StrS w a len ss) (hz : ∀ s ∈ ss, s.size ≤ maxLen) (hT : Tab w) :
    Calls Tryd.prog 7 #[.slice a len cap] w fun e w' => e = .returned (.bool true) ∧ Below w.heap.size w w' := by
  have HT := Lib.hid hT
  have HS := Lib.hid hsl
  have HF := Lib.hid (few14_any a len cap ss w hsl hz)
  clear hT hsl hz
  go_enter Tryd.func7, Tryd.ntmps7
  go_wp2_with fail
  refine HF.out.mono ?_
  rintro e w1 ⟨⟨b, rfl, hb⟩, rfl⟩
  clear HF
  cases b with
  | false =>
    clear hb
    go_wp2_with fail
    refine (awake14_any w HT.out).mono ?_
    rintro e w1 ⟨rfl, hb⟩
    have HB := Lib.hid hb
    clear hb
    go_wp2_with fail
    go_ret
    exact ⟨rfl, HB.out⟩
  | true =>
    obtain ⟨hle, hn⟩ := hb rfl
    have HN := Lib.hid hn
    clear hb hn
    obtain ⟨T, E, hV⟩ : ∃ T E, rowV ss = .tuple #[.string T, .int .i64 E] := ⟨_, _, rfl⟩
    have HV := Lib.hid hV
    clear hV
    go_wp2_with fail
    have h1 := row_any a len cap ss w HT.out HS.out hle HN.out
    rw [HV.out] at h1
    refine h1.mono ?_
    clear h1
    rintro e w1 ⟨rfl, hb⟩
    have B1 := Lib.hid hb
    clear hb
    go_wp2_with fail
    have h2 := rrow_any a len cap ss w1 (HS.out.later B1.out) hle HN.out
    rw [HV.out] at h2
    refine h2.mono ?_
    clear h2
    rintro e w2 ⟨rfl, hb⟩
    have B2 := Lib.hid (B1.out.trans (hb.mono B1.out.size))
    clear hb HV
    go_wp2_with fail
    go_loopw [7, 9, 10, 11, 28] (fun v _ _ _ i wr => ∃ (k n : Nat), i = .int .i64 (k : Int) ∧ k ≤ len ∧ v = .int .i64 (n : Int) ∧ n ≤ 6000 ∧ n = (catF (ss.take k)).length ∧ Below w.heap.size w wr) (fun _ _ _ _ i _ => len - (intOf i).toNat)
    case atStart => exact ⟨0, 0, rfl, Nat.zero_le _, rfl, by omega, rfl, B2.out⟩
    case round =>
      clear B1 B2
      obtain ⟨k, n, rfl, hk, rfl, hn6, hnn, hb⟩ := hrel
      have HNN := Lib.hid hnn
      have HB := Lib.hid hb
      clear hnn hb
      by_cases hlt : k < len
      · obtain ⟨b, off, ha, hcl⟩ := HS.out.2 (by omega)
        subst ha
        have hl := HS.out.1
        have hkn : k < ss.length := by omega
        have hlc := World.block_lt_of_cell? w _ (hcl k hkn)
        have cK := (HB.out.cell (p := ⟨b, off + k, none⟩) hlc).trans (hcl k hkn)
        obtain ⟨t, ht⟩ : ∃ t, t = ss[k] := ⟨_, rfl⟩
        rw [← ht] at cK
        have hts := catS_one_le ss k hkn
        have hcf := catF_take ss k hkn
        have hbd := catF_le ss (k + 1)
        have hN := HN.out
        rw [← ht] at hts hcf
        have hts2 : t.size ≤ 5000 := by omega
        obtain ⟨F, hF⟩ : ∃ F, F = frm t := ⟨_, rfl⟩
        have hlen : (catF (ss.take (k + 1))).length = n + F.size := by
          rw [hcf, List.length_append, ← HNN.out, ← hF]
          simp
        have hn2 : n + F.size ≤ 6000 := by omega
        have HL := Lib.hid hlen
        have HRP := Lib.hid (show ∀ W : World, Calls Tryd.prog 29 #[.string t] W fun e w' => e = .returned (.string F) ∧ Below W.heap.size W w' from fun W => by rw [hF]; exact rput14_any t W (by omega))
        have HCH := Lib.hid (show ∀ W : World, Calls Tryd.prog 32 #[.string t] W fun e w' => e = .returned (.int .i64 (wrg t)) ∧ W = w' from fun W => check_any t W (by omega))
        have HWR := Lib.hid (show ∀ W : World, Calls Tryd.prog 31 #[.string t] W fun e w' => e = .returned (.int .i64 (wrg t)) ∧ W = w' from fun W => rwrong_any t W (by omega))
        have HPT := Lib.hid (show ∀ W : World, Tab W → Calls Tryd.prog 30 #[.string t] W fun e w' => e = .returned (rowV [t]) ∧ Below W.heap.size W w' from fun W h => fput_any t W h hts2)
        by_cases hw : wrg t = 0
        · rw [rowV_one_ok t hw, ← hF] at HPT
          rw [hw] at HCH HWR
          clear hcl hl hkn hlc ht hts hcf hbd hN hF hlen hw
          go_wp2_with fail
          refine (HRP.out wr).mono ?_
          rintro e w3 ⟨rfl, hb⟩
          have B3 := Lib.hid (HB.out.trans (hb.mono HB.out.size))
          clear hb
          go_wp2_with fail
          refine (HPT.out w3 (HT.out.later B3.out)).mono ?_
          rintro e w4 ⟨rfl, hb⟩
          have B4 := Lib.hid (B3.out.trans (hb.mono B3.out.size))
          clear hb
          go_wp2_with fail
          refine (HWR.out w4).mono ?_
          rintro e w5 ⟨rfl, rfl⟩
          go_wp2_with fail
          refine (HCH.out w4).mono ?_
          rintro e w5 ⟨rfl, rfl⟩
          go_wp2_with fail
          refine (HRP.out w4).mono ?_
          rintro e w5 ⟨rfl, hb⟩
          have B5 := Lib.hid (B4.out.trans (hb.mono B4.out.size))
          clear hb
          go_wp2_with fail
          go_roundw
          case rel => exact ⟨k + 1, n + F.size, by go_num, by omega, by first | rfl | go_num, by omega, HL.out.symm, B5.out⟩
          case measure => simp [intOf]; omega
        · obtain ⟨x, hx⟩ : ∃ x, wrg t = x := ⟨_, rfl⟩
          rw [rowV_one_no t _ rfl hw, hx] at HPT
          rw [hx] at HCH HWR hw
          have hd : (x != 0) = true := by simpa using hw
          have hd2 : (x == 0) = false := by simpa using hw
          clear hcl hl hkn hlc ht hts hcf hbd hN hF hlen hw hx
          go_wp2_with fail
          refine (HRP.out wr).mono ?_
          rintro e w3 ⟨rfl, hb⟩
          have B3 := Lib.hid (HB.out.trans (hb.mono HB.out.size))
          clear hb
          go_wp2_with fail
          refine (HPT.out w3 (HT.out.later B3.out)).mono ?_
          rintro e w4 ⟨rfl, hb⟩
          have B4 := Lib.hid (B3.out.trans (hb.mono B3.out.size))
          clear hb
          go_wp2_with fail
          refine (HWR.out w4).mono ?_
          rintro e w5 ⟨rfl, rfl⟩
          go_wp2_with fail
          refine (HCH.out w4).mono ?_
          rintro e w5 ⟨rfl, rfl⟩
          go_wp2_with fail
          go_roundw
          case rel => exact ⟨k + 1, n + F.size, by go_num, by omega, by first | rfl | go_num, by omega, HL.out.symm, B4.out⟩
          case measure => simp [intOf]; omega
      · obtain rfl : k = len := by omega
        have hl := HS.out.1
        have hfin : ss.take k = ss := List.take_of_length_le (by omega)
        rw [hfin] at HNN
        clear hfin hl
        go_wp2_with fail
        have h3 := fsize_any a k cap ss wr (HS.out.later HB.out) hle HN.out
        rw [← HNN.out] at h3
        refine h3.mono ?_
        clear h3
        rintro e w3 ⟨rfl, hb⟩
        have B3 := Lib.hid (HB.out.trans (hb.mono HB.out.size))
        clear hb
        go_wp2_with fail
        refine (awake14_any w3 (HT.out.later B3.out)).mono ?_
        rintro e w4 ⟨rfl, hb⟩
        have B4 := Lib.hid (B3.out.trans (hb.mono B3.out.size))
        clear hb
        go_wp2_with fail
        go_ret
        exact ⟨rfl, B4.out⟩
end Go.Proofs.YtjmfmbokphagaaaDoor.LFramePuts
