/- ShaPieces: in whatever pieces bytes are put, and whatever is told between, they have one sum, of 32 bytes. Condition: the table that the program's text lays. -/
import Derived.Test.YtjmfmbokphagaaaDoorRows
import Derived.Test.YtjmfmbokphagaaaDoorHw
namespace Go.Proofs.YtjmfmbokphagaaaDoor.LShaPieces
open Go.RowKit Hm

/-- the sum of texts, as a text -/
theorem sum_text (l : List UInt8) : ∃ T : ByteArray, Hid (T = ⟨(Hm.sum l).toArray⟩) ∧ T.size = 32 := ⟨_, rfl, by
  show (Hm.sum l).toArray.size = 32
  rw [List.size_toArray, sum_len]⟩
theorem cat_one (s : ByteArray) : catS [s] = s.data.toList := by simp [catS]
set_option maxHeartbeats 2000000 in
set_option maxRecDepth 100000 in
theorem walk_few (a : Option Addr) (len cap : Nat) (ss : List ByteArray) (w : World) (hsl : StrS w a len ss) (hT : HTab w) (hz : ∀ s ∈ ss, s.size ≤ maxLen) (hle : len ≤ 100) :
    Calls Tryd.prog 4 #[.slice a len cap] w fun e w' => e = .returned (.bool true) ∧ Below w.heap.size w w' := by
  have HS := Lib.hid hsl
  have HT := Lib.hid hT
  have HA := Lib.hid (awake3_any w hT)
  have HBy := Lib.hid (tbytes_any a len cap ss w hsl (by omega) hz)
  have hd1 : decide ((100 : Int) < (len : Int)) = false := decide_eq_false (by omega)
  clear hsl hT hz
  go_enter Tryd.func4, Tryd.ntmps4
  go_wp2_with fail
  refine HBy.out.mono ?_
  rintro e w1 ⟨⟨r, rfl, hrr⟩, rfl⟩
  clear HBy
  by_cases hr : 3000 < r
  · have hd2 : decide ((3000 : Int) < (r : Int)) = true := decide_eq_true (by omega)
    clear hrr
    go_wp2_with fail
    refine HA.out.mono ?_
    rintro e w1 ⟨rfl, hb⟩
    have HB := Lib.hid hb
    clear hb HA
    go_wp2_with fail
    go_ret
    exact ⟨rfl, HB.out⟩
  have hd2 : decide ((3000 : Int) < (r : Int)) = false := decide_eq_false (by omega)
  have HC := Lib.hid (hrr (by omega))
  clear hrr HA
  go_wp2_with fail
  refine (new_any w).mono ?_
  rintro e w1 ⟨B, rfl, h1, h2, h3⟩
  have H1 := Lib.hid h1
  have H2 := Lib.hid h2
  have H3 := Lib.hid h3
  clear h1 h2 h3
  go_wp2_with fail
  go_loopw [4, 5, 6, 19] (fun t _ _ i wr => ∃ (k : Nat) (S : ByteArray), i = .int .i64 (k : Int) ∧ k ≤ len ∧ t = .string S ∧ S.data.toList = catS (ss.take k) ∧ SL wr B (catS (ss.take k)) ∧ Below w.heap.size w wr) (fun _ _ _ i _ => len - (intOf i).toNat)
  case atStart => exact ⟨0, ⟨#[]⟩, rfl, Nat.zero_le _, rfl, rfl, H1.out, H3.out⟩
  case round =>
    obtain ⟨k, S, rfl, hk, rfl, hS, hs1, hb1⟩ := hrel
    have HSS := Lib.hid hS
    have HR := Lib.hid hs1
    have HB := Lib.hid hb1
    clear hS hs1 hb1
    by_cases hlt : k < len
    · obtain ⟨b, off, ha, hcl⟩ := HS.out.2 (by omega)
      subst ha
      have hl := HS.out.1
      have hkn : k < ss.length := by omega
      have cK := (HB.out.cell (p := ⟨b, off + k, none⟩) (World.block_lt_of_cell? w _ (hcl k hkn))).trans (hcl k hkn)
      obtain ⟨t, ht⟩ : ∃ t, t = ss[k] := ⟨_, rfl⟩
      rw [← ht] at cK
      have hcat := catS_take ss k hkn
      have hcle := catS_le ss k hkn
      rw [← ht] at hcat hcle
      rw [HC.out] at hcle
      obtain ⟨c, hc⟩ : ∃ c, c = catS (ss.take k) := ⟨_, rfl⟩
      rw [← hc] at hcat hcle HSS HR
      have HCA := Lib.hid hcat
      have hcl2 : c.length + t.size ≤ 3000 := by omega
      have HP := Lib.hid (hput_any B c t wr HR.out (HT.out.later HB.out) (HT.out.ne H2.out) (by omega))
      clear hcat hcle hcl hl hc ht hkn
      have HSZ := Lib.hid (show S.size = c.length by rw [← HSS.out]; simp)
      have hsz : S.size + t.size ≤ 3000 := by rw [HSZ.out]; exact hcl2
      have HLN := Lib.hid hcl2
      clear hcl2
      go_wp2_with fail
      refine HP.out.mono ?_
      rintro e w2 ⟨rfl, h4, h5⟩
      have H4 := Lib.hid h4
      have HB2 := Lib.hid (Only.below HB.out h5 H2.out HB.out.size)
      clear h4 h5 HP
      have HA := Lib.hid (show (S ++ t).data.toList = c ++ t.data.toList by rw [← HSS.out]; simp)
      obtain ⟨T, hT1, hT2⟩ := sum_text (c ++ t.data.toList)
      have HS2 := Lib.hid (show Calls Tryd.prog 19 #[.pointer (some ⟨B, 0, none⟩)] w2 fun e w' => e = .returned (.string T) ∧ Below w2.heap.size w2 w' by
        rw [hT1.out]
        exact hsum_any B _ w2 H4.out (HT.out.later HB2.out) (by have := HLN.out; simp; omega))
      by_cases h3 : k % 4 = 3
      · have hd3 : ((k : Int) % 4 == 3) = true := by rw [beq_iff_eq]; omega
        clear h3
        go_wp2_with fail
        refine HS2.out.mono ?_
        rintro e w3 ⟨rfl, h6⟩
        have HB3 := Lib.hid (HB2.out.trans (h6.mono HB2.out.size))
        have H6 := Lib.hid (H4.out.later h6)
        clear h6
        go_wp2_with fail
        obtain ⟨w4, hw4⟩ : ∃ w4, w4 = w3.alloc (.cells #[.string (S ++ t)] 9) := ⟨_, rfl⟩
        obtain ⟨M, hM⟩ : ∃ M, M = w3.heap.size := ⟨_, rfl⟩
        have HST := Lib.hid (show StrS w4 (some ⟨M, 0, none⟩) 1 [S ++ t] by rw [hw4, hM]; exact str_one w3 _)
        have h34 : Below w3.heap.size w3 w4 := by rw [hw4]; exact (Below.refl _ w3).alloc (Nat.le_refl _) _
        have HB4 := Lib.hid (HB3.out.trans (h34.mono HB3.out.size))
        have H7 := Lib.hid (H6.out.later h34)
        rw [← hw4, ← hM]
        clear hw4 hM h34
        have HSP := Lib.hid (sumP_any (some ⟨M, 0, none⟩) 1 1 [S ++ t] w4 (HT.out.later HB4.out) HST.out (by rw [cat_one, HA.out]; have := HLN.out; simp; omega) (by omega))
        rw [cat_one, HA.out, ← hT1.out] at HSP
        refine HSP.out.mono ?_
        rintro e w5 ⟨rfl, h8⟩
        have HB5 := Lib.hid (HB4.out.trans (h8.mono HB4.out.size))
        have H8 := Lib.hid (H7.out.later h8)
        clear h8
        go_wp2_with fail
        go_roundw
        case rel => exact ⟨k + 1, S ++ t, by go_num, by omega, rfl, by rw [HA.out, HCA.out], by rw [HCA.out]; exact H8.out, HB5.out⟩
        case measure => simp [intOf]; omega
      · have hd3 : ((k : Int) % 4 == 3) = false := by rw [beq_eq_false_iff_ne]; omega
        clear h3
        go_wp2_with fail
        go_roundw
        case rel => exact ⟨k + 1, S ++ t, by go_num, by omega, rfl, by rw [HA.out, HCA.out], by rw [HCA.out]; exact H4.out, HB2.out⟩
        case measure => simp [intOf]; omega
    · obtain rfl : k = len := by omega
      have hfin : ss.take k = ss := List.take_of_length_le (by rw [HS.out.1]; omega)
      rw [hfin] at HSS HR
      have HSZ := Lib.hid (show S.size = r by rw [← HC.out, ← HSS.out]; simp)
      have hsz : S.size ≤ 3000 := by rw [HSZ.out]; omega
      have hn : (catS ss).length ≤ 576460752303423488 := by rw [HC.out]; omega
      have HN := Lib.hid hn
      obtain ⟨T, hT1, hT2⟩ := sum_text (catS ss)
      have hcl : (catS ss).length = S.size := by rw [HC.out, HSZ.out]
      have HCL := Lib.hid hcl
      clear hfin hn hcl
      have HS2 := fun (W : World) (h : SL W B (catS ss)) (hb : Below w.heap.size w W) => Lib.hid (show Calls Tryd.prog 19 #[.pointer (some ⟨B, 0, none⟩)] W fun e w' => e = .returned (.string T) ∧ Below W.heap.size W w' by
        rw [hT1.out]
        exact hsum_any B _ W h (HT.out.later hb) HN.out)
      have HS2 := Lib.hid HS2
      go_wp2_with fail
      refine (HS2.out wr HR.out HB.out).out.mono ?_
      rintro e w3 ⟨rfl, h6⟩
      have HB3 := Lib.hid (HB.out.trans (h6.mono HB.out.size))
      have H6 := Lib.hid (HR.out.later h6)
      clear h6
      go_wp2_with fail
      have HSP := Lib.hid (sumP_any a k cap ss w3 (HT.out.later HB3.out) (HS.out.later HB3.out) HN.out (by omega))
      rw [← hT1.out] at HSP
      refine HSP.out.mono ?_
      rintro e w4 ⟨rfl, h6⟩
      have HB4 := Lib.hid (HB3.out.trans (h6.mono HB3.out.size))
      have H7 := Lib.hid (H6.out.later h6)
      clear h6 HSP
      go_wp2_with fail
      refine (HS2.out w4 H7.out HB4.out).out.mono ?_
      rintro e w5 ⟨rfl, h6⟩
      have HB5 := Lib.hid (HB4.out.trans (h6.mono HB4.out.size))
      have H8 := Lib.hid (H7.out.later h6)
      clear h6
      go_wp2_with fail
      obtain ⟨w6, hw6⟩ : ∃ w6, w6 = w5.alloc (.cells #[.string S] 9) := ⟨_, rfl⟩
      obtain ⟨M, hM⟩ : ∃ M, M = w5.heap.size := ⟨_, rfl⟩
      have HST := Lib.hid (show StrS w6 (some ⟨M, 0, none⟩) 1 [S] by rw [hw6, hM]; exact str_one w5 _)
      have h34 : Below w5.heap.size w5 w6 := by rw [hw6]; exact (Below.refl _ w5).alloc (Nat.le_refl _) _
      have HB6 := Lib.hid (HB5.out.trans (h34.mono HB5.out.size))
      have H9 := Lib.hid (H8.out.later h34)
      rw [← hw6, ← hM]
      clear hw6 hM h34
      have HSP := Lib.hid (sumP_any (some ⟨M, 0, none⟩) 1 1 [S] w6 (HT.out.later HB6.out) HST.out (by rw [cat_one, HSS.out]; exact HN.out) (by omega))
      rw [cat_one, HSS.out, ← hT1.out] at HSP
      refine HSP.out.mono ?_
      rintro e w7 ⟨rfl, h6⟩
      have HB7 := Lib.hid (HB6.out.trans (h6.mono HB6.out.size))
      have H10 := Lib.hid (H9.out.later h6)
      clear h6 HSP
      go_wp2_with fail
      have HLE := Lib.hid (hlen_any B (catS ss) w7 H10.out)
      rw [HCL.out] at HLE
      refine HLE.out.mono ?_
      rintro e w8 ⟨rfl, rfl⟩
      go_wp2_with fail
      refine (HS2.out w7 H10.out HB7.out).out.mono ?_
      rintro e w8 ⟨rfl, h6⟩
      have HB8 := Lib.hid (HB7.out.trans (h6.mono HB7.out.size))
      clear h6
      go_wp2_with fail
      refine (awake3_any w8 (HT.out.later HB8.out)).mono ?_
      rintro e w9 ⟨rfl, h6⟩
      have HB9 := Lib.hid (HB8.out.trans (h6.mono HB8.out.size))
      clear h6
      go_wp2_with fail
      go_ret
      exact ⟨rfl, HB9.out⟩
set_option maxHeartbeats 1000000 in
set_option maxRecDepth 100000 in
theorem walk_many (a : Option Addr) (len cap : Nat) (w : World) (hT : HTab w) (hle : 100 < len) :
    Calls Tryd.prog 4 #[.slice a len cap] w fun e w' => e = .returned (.bool true) ∧ Below w.heap.size w w' := by
  have HA := Lib.hid (awake3_any w hT)
  have hd1 : decide ((100 : Int) < (len : Int)) = true := decide_eq_true (by omega)
  clear hT
  go_enter Tryd.func4, Tryd.ntmps4
  go_wp2_with fail
  refine HA.out.mono ?_
  rintro e w1 ⟨rfl, hb⟩
  have HB := Lib.hid hb
  clear hb HA
  go_wp2_with fail
  go_ret
  exact ⟨rfl, HB.out⟩
theorem walk (a : Option Addr) (len cap : Nat) (ss : List ByteArray) (w : World) (hsl : StrS w a len ss) (hz : ∀ s ∈ ss, s.size ≤ maxLen) (hT : HTab w) :
    Calls Tryd.prog 4 #[.slice a len cap] w fun e w' => e = .returned (.bool true) ∧ Below w.heap.size w w' := by
  by_cases h : 100 < len
  · exact walk_many a len cap w hT h
  · exact walk_few a len cap ss w hsl hT hz (by omega)
end Go.Proofs.YtjmfmbokphagaaaDoor.LShaPieces
