/- The contracts of frame.Put, Size, of the document's own Row of layer 14, the chapter's example. Conditions: few bytes; the table of crc. -/
import Derived.Test.YtjmfmbokphagaaaDoorGb
namespace Go.Proofs.YtjmfmbokphagaaaDoor
open Go.RowKit Vi Cm

theorem catS_one (s : ByteArray) : catS [s] = s.data.toList := by simp [catS]
theorem catF_one (s : ByteArray) : catF [s] = (frm s).data.toList := by simp [catF]
theorem rowE_one (s : ByteArray) : rowE [s] = wrg s := by
  unfold rowE
  split
  · rfl
  · rename_i h
    have : wrg s = 0 := by simpa using h
    rw [this]
    rfl
theorem toList_str (s : ByteArray) : (⟨s.data.toList.toArray⟩ : ByteArray) = s := by
  apply ByteArray.ext
  simp
theorem rowV_one_ok (s : ByteArray) (h : wrg s = 0) : rowV [s] = .tuple #[.string (frm s), .int .i64 0] := by
  rw [rowV_ok [s] (by rw [rowE_one]; exact h), catF_one, toList_str]
theorem rowV_one_no (s : ByteArray) (x : Int) (h : wrg s = x) (hx : x ≠ 0) : rowV [s] = .tuple #[.string ⟨#[]⟩, .int .i64 x] :=
  rowV_no [s] x (by rw [rowE_one]; exact h) hx
set_option maxRecDepth 100000 in
theorem fput_any (s : ByteArray) (w : World) (hT : Tab w) (hs : s.size ≤ 5000) :
    Calls Tryd.prog 30 #[.string s] w fun e w' => e = .returned (rowV [s]) ∧ Below w.heap.size w w' := by
  obtain ⟨T, E, hV⟩ : ∃ T E, rowV [s] = .tuple #[.string T, .int .i64 E] := ⟨_, _, rfl⟩
  have HT := Lib.hid hT
  have HVV := Lib.hid hV
  clear hT hV
  go_enter Tryd.func30, Tryd.ntmps30
  go_wp2_with fail
  obtain ⟨w0, hw0⟩ : ∃ w0, w0 = w.alloc (.cells #[.string s] 9) := ⟨_, rfl⟩
  have HS0 := Lib.hid (show StrS w0 (some ⟨w.heap.size, 0, none⟩) 1 [s] by rw [hw0]; exact str_one w s)
  have B0 := Lib.hid (show Below w.heap.size w w0 by rw [hw0]; exact (Below.refl _ w).alloc (Nat.le_refl _) _)
  rw [← hw0]
  clear hw0
  have HR := Lib.hid (row_any (some ⟨w.heap.size, 0, none⟩) 1 1 [s] w0 (HT.out.later B0.out) HS0.out (by omega) (by rw [catS_one]; simp; omega))
  rw [HVV.out] at HR
  refine HR.out.mono ?_
  rintro e w1 ⟨rfl, hb⟩
  have B1 := Lib.hid (B0.out.trans (hb.mono B0.out.size))
  clear hb HR
  go_wp2_with fail
  go_ret2
  exact ⟨congrArg Ending.returned HVV.out.symm, B1.out⟩
theorem catF_le (ss : List ByteArray) (k : Nat) : (catF (ss.take k)).length ≤ (catS ss).length + 14 * ss.length := by
  have h1 := catF_len (ss.take k)
  have h2 := catS_take_len ss k
  rw [List.length_take] at h1
  omega
set_option maxHeartbeats 1000000 in
set_option maxRecDepth 100000 in
theorem fsize_any (a : Option Addr) (len cap : Nat) (ss : List ByteArray) (w : World) (hsl : StrS w a len ss) (hle : len ≤ 60) (hn : (catS ss).length ≤ 5000) :
    Calls Tryd.prog 33 #[.slice a len cap] w fun e w' => e = .returned (.int .i64 ((catF ss).length : Int)) ∧ Below w.heap.size w w' := by
  have HS := Lib.hid hsl
  have HN := Lib.hid hn
  clear hsl hn
  go_enter Tryd.func33, Tryd.ntmps33
  go_wp2_with fail
  go_loopw [3, 5, 6, 9] (fun v _ _ i wr => ∃ (k n : Nat), i = .int .i64 (k : Int) ∧ k ≤ len ∧ v = .int .i64 (n : Int) ∧ n ≤ 6000 ∧ n = (catF (ss.take k)).length ∧ Below w.heap.size w wr) (fun _ _ _ i _ => len - (intOf i).toNat)
  case atStart => exact ⟨0, 0, rfl, Nat.zero_le _, rfl, by omega, rfl, Below.refl _ _⟩
  case round =>
    obtain ⟨k, n, rfl, hk, rfl, hn6, hn, hb⟩ := hrel
    have HNN := Lib.hid hn
    have HB := Lib.hid hb
    clear hn hb
    by_cases hlt : k < len
    · obtain ⟨b, off, ha, hcl⟩ := HS.out.2 (by omega)
      subst ha
      have hl := HS.out.1
      have hkn : k < ss.length := by omega
      have cK := (HB.out.cell (p := ⟨b, off + k, none⟩) (World.block_lt_of_cell? w _ (hcl k hkn))).trans (hcl k hkn)
      obtain ⟨t, ht⟩ : ∃ t, t = ss[k] := ⟨_, rfl⟩
      rw [← ht] at cK
      have hts := catS_one_le ss k hkn
      have hcf := catF_take ss k hkn
      have hbd := catF_le ss (k + 1)
      have hN := HN.out
      rw [← ht] at hts hcf
      have hfz := frm_size t
      obtain ⟨T, hTe⟩ : ∃ T : ByteArray, T = ⟨(put (t.size + 4)).toArray⟩ := ⟨_, rfl⟩
      have hTs : T.size = (put (t.size + 4)).length := by rw [hTe]; rfl
      have hlen : (catF (ss.take (k + 1))).length = n + (T.size + (t.size + 4)) := by
        rw [hcf, List.length_append, ← HNN.out]
        have : (frm t).data.toList.length = (frm t).size := by simp
        rw [this, hfz, hTs]
      have hT14 : T.size ≤ 14 := by rw [hTs]; have := put_len (t.size + 4); omega
      have hn2 : n + (T.size + (t.size + 4)) ≤ 6000 := by omega
      have HL := Lib.hid hlen
      have hts2 : t.size ≤ 5000 := by omega
      have HP := Lib.hid (show Calls Tryd.prog 87 #[.int .i64 ((t.size : Int) + 4)] wr fun e w' => e = .returned (.string T) ∧ Below wr.heap.size wr w' from (putNum_any ((t.size : Int) + 4) wr (by omega)).mono fun e w' ⟨he, hb⟩ => ⟨by rw [he, hTe, show ((t.size : Int) + 4).toNat = t.size + 4 by omega], hb⟩)
      clear hcl hl hkn ht hts hcf hbd hN hfz hTe hTs hlen
      go_wp2_with fail
      refine HP.out.mono ?_
      rintro e w1 ⟨rfl, hb⟩
      have B1 := Lib.hid (HB.out.trans (hb.mono HB.out.size))
      clear hb HP
      go_wp2_with fail
      go_roundw
      case rel => exact ⟨k + 1, n + (T.size + (t.size + 4)), by go_num, by omega, by first | rfl | go_num, by omega, HL.out.symm, B1.out⟩
      case measure => simp [intOf]; omega
    · obtain rfl : k = len := by omega
      have hl := HS.out.1
      have hfin : ss.take k = ss := List.take_of_length_le (by omega)
      rw [hfin] at HNN
      clear hfin hl
      go_wp2_with fail
      go_ret
      exact ⟨congrArg (fun z : Nat => Ending.returned (.int .i64 (z : Int))) HNN.out, HB.out⟩
set_option maxHeartbeats 1000000 in
set_option maxRecDepth 100000 in
theorem rrow_any (a : Option Addr) (len cap : Nat) (ss : List ByteArray) (w : World) (hsl : StrS w a len ss) (hle : len ≤ 60) (hn : (catS ss).length ≤ 5000) :
    Calls Tryd.prog 28 #[.slice a len cap] w fun e w' => e = .returned (rowV ss) ∧ Below w.heap.size w w' := by
  have HS := Lib.hid hsl
  have HN := Lib.hid hn
  clear hsl hn
  go_enter Tryd.func28, Tryd.ntmps28
  go_wp2_with fail
  go_loopw [4, 5, 6] (fun v i _ wr => ∃ (k : Nat) (S : ByteArray), i = .int .i64 (k : Int) ∧ k ≤ len ∧ v = .string S ∧ S.data.toList = catF (ss.take k) ∧ rowE (ss.take k) = 0 ∧ Below w.heap.size w wr) (fun _ i _ _ => len - (intOf i).toNat)
  case atStart => exact ⟨0, ⟨#[]⟩, rfl, Nat.zero_le _, rfl, rfl, rfl, Below.refl _ _⟩
  case round =>
    obtain ⟨k, S, rfl, hk, rfl, hS, hre, hb⟩ := hrel
    have HSS := Lib.hid hS
    have HR := Lib.hid hre
    have HB := Lib.hid hb
    clear hS hre hb
    by_cases hlt : k < len
    · obtain ⟨b, off, ha, hcl⟩ := HS.out.2 (by omega)
      subst ha
      have hl := HS.out.1
      have hkn : k < ss.length := by omega
      have hlc := World.block_lt_of_cell? w _ (hcl k hkn)
      have cK := (HB.out.cell (p := ⟨b, off + k, none⟩) hlc).trans (hcl k hkn)
      obtain ⟨t, ht⟩ : ∃ t, t = ss[k] := ⟨_, rfl⟩
      rw [← ht] at cK
      have hts := catS_one_le ss k hkn
      have hcf := catF_take ss k hkn
      have hbd := catF_le ss k
      have hN := HN.out
      rw [← ht] at hts hcf
      have hts2 : t.size ≤ 5000 := by omega
      have hSz : S.size ≤ 6000 := by
        have h1 := congrArg List.length HSS.out
        have h3 : S.data.toList.length = S.size := by simp
        omega
      have HSF := Lib.hid (show (S ++ frm t).data.toList = catF (ss.take (k + 1)) by rw [hcf, ← HSS.out]; simp)
      by_cases hw : wrg t = 0
      · have HRE := Lib.hid (rowE_take ss k hkn HR.out (by rw [← ht]; exact hw))
        have HW := Lib.hid (rwrong_any t wr (by omega))
        rw [hw] at HW
        have HP := Lib.hid (rput14_any t wr (by omega))
        have hfz := frm_le t
        clear hcl hkn ht hts hcf hbd hN hl hw
        go_wp2_with fail
        refine HW.out.mono ?_
        rintro e w1 ⟨rfl, rfl⟩
        clear HW
        go_wp2_with fail
        refine HP.out.mono ?_
        rintro e w1 ⟨rfl, hb⟩
        have B1 := Lib.hid (HB.out.trans (hb.mono HB.out.size))
        clear hb HP
        go_wp2_with fail
        go_roundw
        case rel => exact ⟨k + 1, S ++ frm t, by go_num, by omega, rfl, HSF.out, HRE.out, B1.out⟩
        case measure => simp [intOf]; omega
      · have HV := Lib.hid (rowV_no ss (wrg t) (by rw [rowE_stop ss k hkn HR.out (by rw [← ht]; exact hw), ← ht]) hw)
        have HW := Lib.hid (rwrong_any t wr (by omega))
        obtain ⟨x, hx⟩ : ∃ x, wrg t = x := ⟨_, rfl⟩
        rw [hx] at HW HV hw
        have hd : (x != 0) = true := by simpa using hw
        have hd2 : (x == 0) = false := by simpa using hw
        clear hcl hkn ht hts hcf hbd hN hl hw hx
        go_wp2_with fail
        refine HW.out.mono ?_
        rintro e w1 ⟨rfl, rfl⟩
        clear HW
        go_wp2_with fail
        go_ret2
        exact ⟨congrArg Ending.returned HV.out.symm, HB.out⟩
    · obtain rfl : k = len := by omega
      have hl := HS.out.1
      have hfin : ss.take k = ss := List.take_of_length_le (by omega)
      rw [hfin] at HSS HR
      have HV := Lib.hid (show rowV ss = .tuple #[.string S, .int .i64 0] by
        rw [rowV_ok ss HR.out, ← HSS.out, toList_str])
      clear hfin hl
      go_wp2_with fail
      go_ret2
      exact ⟨congrArg Ending.returned HV.out.symm, HB.out⟩
theorem frm_a : frm ⟨#[97]⟩ = ⟨#[5, 97, 67, 190, 183, 232]⟩ := by decide +kernel
theorem take_ax : takeV ⟨#[5, 97, 67, 190, 183, 232, 120]⟩ = .tuple #[.string ⟨#[97]⟩, .int .i64 6, .int .i64 0] := by
  have h : fr ⟨#[5, 97, 67, 190, 183, 232, 120]⟩ 0 0 = (⟨#[97]⟩, 6, 0) := by decide +kernel
  unfold takeV
  rw [h]
  rfl
end Go.Proofs.YtjmfmbokphagaaaDoor
