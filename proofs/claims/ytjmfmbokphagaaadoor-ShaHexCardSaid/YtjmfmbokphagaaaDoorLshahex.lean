/- ShaHex: any bytes as digits, and any digits as bytes, or that they are none's; each leads back. Condition: the table that the program's text lays. -/
import Derived.Test.YtjmfmbokphagaaaDoorRows
import Derived.Test.YtjmfmbokphagaaaDoorHw
import Derived.Test.YtjmfmbokphagaaaDoorHz
namespace Go.Proofs.YtjmfmbokphagaaaDoor.LShaHex
open Go.RowKit Hm

/-- the digits of bytes, as a text -/
theorem hex_text (l : List UInt8) (h : l.length ≤ 1000) : ∃ T : ByteArray, Hid (T = ⟨(hexL l).toArray⟩) ∧ T.size ≤ 2000 ∧ Hid (T.data.toList = hexL l) := ⟨_, rfl, by
  show (hexL l).toArray.size ≤ 2000
  rw [List.size_toArray, hexL_len]
  omega, rfl⟩
set_option maxHeartbeats 2000000 in
set_option maxRecDepth 100000 in
theorem walk_few (s t : ByteArray) (w : World) (hT : HTab w) (h1 : s.size ≤ 500) (h2 : t.size ≤ 500) :
    Calls Tryd.prog 5 #[.string s, .string t] w fun e w' => e = .returned (.bool true) ∧ Below w.heap.size w w' := by
  have HT := Lib.hid hT
  have HS := Lib.hid h1
  have HT2 := Lib.hid h2
  have hd1 : decide ((500 : Int) < (s.size : Int)) = false := decide_eq_false (by omega)
  have hd2 : decide ((500 : Int) < (t.size : Int)) = false := decide_eq_false (by omega)
  clear hT h1 h2
  obtain ⟨T, hT1, hT2, hT3⟩ := hex_text s.data.toList (by have := HS.out; simp; omega)
  have HZ := Lib.hid hT2
  have HXS := Lib.hid (show ∀ W : World, Calls Tryd.prog 23 #[.string s] W fun e w' => e = .returned (.string T) ∧ Below W.heap.size W w' from fun W => by rw [hT1.out]; exact hex_any s W (by have := HS.out; omega))
  have HRS := Lib.hid (show ∀ W : World, Calls Tryd.prog 24 #[.string s] W fun e w' => e = .returned (.string T) ∧ Below W.heap.size W w' from fun W => by rw [hT1.out]; exact rhex_any s W (by have := HS.out; omega))
  have HBK := Lib.hid (show ∀ W : World, Calls Tryd.prog 21 #[.string T] W fun e w' => e = .returned (.tuple #[.string s, .bool true]) ∧ Below W.heap.size W w' from fun W => (unhex_any T W (by have := HZ.out; omega)).mono fun e w' ⟨he, hb⟩ => ⟨by
    have hs : (⟨s.data.toList.toArray⟩ : ByteArray) = s := by apply ByteArray.ext; simp
    rw [he, hT3.out, unhexV_some _ _ (unhex_hex s.data.toList), hs], hb⟩)
  clear hT1 hT2 hT3
  cases hU : unhexL t.data.toList with
  | none =>
    have HU1 := Lib.hid (show ∀ W : World, Calls Tryd.prog 21 #[.string t] W fun e w' => e = .returned (.tuple #[.string ⟨#[]⟩, .bool false]) ∧ Below W.heap.size W w' from fun W => (unhex_any t W (by have := HT2.out; omega)).mono fun e w' ⟨he, hb⟩ => ⟨by rw [he, unhexV_none _ hU], hb⟩)
    have HU2 := Lib.hid (show ∀ W : World, Calls Tryd.prog 22 #[.string t] W fun e w' => e = .returned (.tuple #[.string ⟨#[]⟩, .bool false]) ∧ Below W.heap.size W w' from fun W => (runhex_any t W (by have := HT2.out; omega)).mono fun e w' ⟨he, hb⟩ => ⟨by rw [he, unhexV_none _ hU], hb⟩)
    clear hU
    go_enter Tryd.func5, Tryd.ntmps5
    go_wp2_with fail
    refine (HU1.out w).mono ?_
    rintro e w1 ⟨rfl, hb⟩
    have B1 := Lib.hid hb
    clear hb
    go_wp2_with fail
    refine (HU2.out w1).mono ?_
    rintro e w2 ⟨rfl, hb⟩
    have B2 := Lib.hid (B1.out.trans (hb.mono B1.out.size))
    clear hb
    go_wp2_with fail
    refine (HXS.out w2).mono ?_
    rintro e w3 ⟨rfl, hb⟩
    have B3 := Lib.hid (B2.out.trans (hb.mono B2.out.size))
    clear hb
    go_wp2_with fail
    refine (HBK.out w3).mono ?_
    rintro e w4 ⟨rfl, hb⟩
    have B4 := Lib.hid (B3.out.trans (hb.mono B3.out.size))
    clear hb
    go_wp2_with fail
    refine (HXS.out w4).mono ?_
    rintro e w5 ⟨rfl, hb⟩
    have B5 := Lib.hid (B4.out.trans (hb.mono B4.out.size))
    clear hb
    go_wp2_with fail
    refine (HRS.out w5).mono ?_
    rintro e w6 ⟨rfl, hb⟩
    have B6 := Lib.hid (B5.out.trans (hb.mono B5.out.size))
    clear hb
    go_wp2_with fail
    refine (awake3_any w6 (HT.out.later B6.out)).mono ?_
    rintro e w7 ⟨rfl, hb⟩
    have B7 := Lib.hid (B6.out.trans (hb.mono B6.out.size))
    clear hb
    go_wp2_with fail
    go_ret
    exact ⟨rfl, B7.out⟩
  | some m =>
    obtain ⟨M, hM⟩ : ∃ M : ByteArray, M = ⟨m.toArray⟩ := ⟨_, rfl⟩
    have hMl : M.data.toList = m := by rw [hM]
    have hml : M.size ≤ 250 := by
      have h1 := unhexL_len _ _ m (Nat.le_refl _) hU
      have h2 : M.data.toList.length = M.size := by simp
      have h3 : t.data.toList.length = t.size := by simp
      have := HT2.out
      rw [hMl] at h2
      omega
    have HU1 := Lib.hid (show ∀ W : World, Calls Tryd.prog 21 #[.string t] W fun e w' => e = .returned (.tuple #[.string M, .bool true]) ∧ Below W.heap.size W w' from fun W => (unhex_any t W (by have := HT2.out; omega)).mono fun e w' ⟨he, hb⟩ => ⟨by rw [he, unhexV_some _ m hU, hM], hb⟩)
    have HU2 := Lib.hid (show ∀ W : World, Calls Tryd.prog 22 #[.string t] W fun e w' => e = .returned (.tuple #[.string M, .bool true]) ∧ Below W.heap.size W w' from fun W => (runhex_any t W (by have := HT2.out; omega)).mono fun e w' ⟨he, hb⟩ => ⟨by rw [he, unhexV_some _ m hU, hM], hb⟩)
    have HXM := Lib.hid (show ∀ W : World, Calls Tryd.prog 23 #[.string M] W fun e w' => e = .returned (.string t) ∧ Below W.heap.size W w' from fun W => (hex_any M W (by omega)).mono fun e w' ⟨he, hb⟩ => ⟨by
      have hs : (⟨t.data.toList.toArray⟩ : ByteArray) = t := by apply ByteArray.ext; simp
      rw [he, hMl, hex_unhex _ _ m (Nat.le_refl _) hU, hs], hb⟩)
    clear hU hM hMl hml
    go_enter Tryd.func5, Tryd.ntmps5
    go_wp2_with fail
    refine (HU1.out w).mono ?_
    rintro e w1 ⟨rfl, hb⟩
    have B1 := Lib.hid hb
    clear hb
    go_wp2_with fail
    refine (HU2.out w1).mono ?_
    rintro e w2 ⟨rfl, hb⟩
    have B2 := Lib.hid (B1.out.trans (hb.mono B1.out.size))
    clear hb
    go_wp2_with fail
    refine (HXS.out w2).mono ?_
    rintro e w3 ⟨rfl, hb⟩
    have B3 := Lib.hid (B2.out.trans (hb.mono B2.out.size))
    clear hb
    go_wp2_with fail
    refine (HBK.out w3).mono ?_
    rintro e w4 ⟨rfl, hb⟩
    have B4 := Lib.hid (B3.out.trans (hb.mono B3.out.size))
    clear hb
    go_wp2_with fail
    refine (HXS.out w4).mono ?_
    rintro e w5 ⟨rfl, hb⟩
    have B5 := Lib.hid (B4.out.trans (hb.mono B4.out.size))
    clear hb
    go_wp2_with fail
    refine (HRS.out w5).mono ?_
    rintro e w6 ⟨rfl, hb⟩
    have B6 := Lib.hid (B5.out.trans (hb.mono B5.out.size))
    clear hb
    go_wp2_with fail
    refine (HXM.out w6).mono ?_
    rintro e w7 ⟨rfl, hb⟩
    have B7 := Lib.hid (B6.out.trans (hb.mono B6.out.size))
    clear hb
    go_wp2_with fail
    refine (awake3_any w7 (HT.out.later B7.out)).mono ?_
    rintro e w8 ⟨rfl, hb⟩
    have B8 := Lib.hid (B7.out.trans (hb.mono B7.out.size))
    clear hb
    go_wp2_with fail
    go_ret
    exact ⟨rfl, B8.out⟩
set_option maxHeartbeats 1000000 in
set_option maxRecDepth 100000 in
theorem walk_big (s t : ByteArray) (w : World) (hT : HTab w) (h : 500 < s.size ∨ (s.size ≤ 500 ∧ 500 < t.size)) :
    Calls Tryd.prog 5 #[.string s, .string t] w fun e w' => e = .returned (.bool true) ∧ Below w.heap.size w w' := by
  have HA := Lib.hid (awake3_any w hT)
  clear hT
  rcases h with h | ⟨h, h2⟩
  · have hd1 : decide ((500 : Int) < (s.size : Int)) = true := decide_eq_true (by omega)
    clear h
    go_enter Tryd.func5, Tryd.ntmps5
    go_wp2_with fail
    refine HA.out.mono ?_
    rintro e w1 ⟨rfl, hb⟩
    have HB := Lib.hid hb
    clear hb HA
    go_wp2_with fail
    go_ret
    exact ⟨rfl, HB.out⟩
  · have hd1 : decide ((500 : Int) < (s.size : Int)) = false := decide_eq_false (by omega)
    have hd2 : decide ((500 : Int) < (t.size : Int)) = true := decide_eq_true (by omega)
    clear h h2
    go_enter Tryd.func5, Tryd.ntmps5
    go_wp2_with fail
    refine HA.out.mono ?_
    rintro e w1 ⟨rfl, hb⟩
    have HB := Lib.hid hb
    clear hb HA
    go_wp2_with fail
    go_ret
    exact ⟨rfl, HB.out⟩
theorem walk (s t : ByteArray) (w : World) (hT : HTab w) :
    Calls Tryd.prog 5 #[.string s, .string t] w fun e w' => e = .returned (.bool true) ∧ Below w.heap.size w w' := by
  by_cases h1 : 500 < s.size
  · exact walk_big s t w hT (Or.inl h1)
  · by_cases h2 : 500 < t.size
    · exact walk_big s t w hT (Or.inr ⟨by omega, h2⟩)
    · exact walk_few s t w hT (by omega) (by omega)
end Go.Proofs.YtjmfmbokphagaaaDoor.LShaHex
