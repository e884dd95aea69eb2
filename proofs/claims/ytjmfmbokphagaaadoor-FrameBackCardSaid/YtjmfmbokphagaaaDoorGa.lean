/- The contracts of frame.Check, Row, Put, Size and of the document's own Wrong, Put, Row of layer 14 over this translation. Conditions: texts of at most five thousand bytes in all; the table of crc. -/
import Derived.Test.YtjmfmbokphagaaaDoorGp
import Derived.Test.YtjmfmbokphagaaaDoorP
import Derived.Test.YtjmfmbokphagaaaDoorSput
import Derived.Test.YtjmfmbokphagaaaDoorCr
namespace Go.Proofs.YtjmfmbokphagaaaDoor
open Go.RowKit Vi Cm

theorem size_list (s : ByteArray) : s.toList = [] ↔ s.size = 0 := by
  rw [ByteArray.toList_eq]
  constructor
  · intro h
    have : s.data.toList.length = 0 := by rw [h]; rfl
    simpa using this
  · intro h
    apply List.eq_nil_of_length_eq_zero
    simpa using h
theorem str_empty (s : ByteArray) (h : s.size = 0) : s = ⟨#[]⟩ := by
  apply ByteArray.ext
  apply Array.eq_empty_of_size_eq_zero
  exact h
theorem retE {a b : Int} (h : a = b) : Ending.returned (.int .i64 a) = .returned (.int .i64 b) := by rw [h]
set_option maxRecDepth 100000 in
theorem check_any (s : ByteArray) (w : World) (hs : s.size ≤ 1000000) : Calls Tryd.prog 32 #[.string s] w fun e w' => e = .returned (.int .i64 (wrg s)) ∧ w = w' := by
  by_cases h0 : s.size = 0
  · have hse := str_empty s h0
    subst hse
    go_enter Tryd.func32, Tryd.ntmps32
    go_wp2
    go_ret
    exact ⟨rfl, rfl⟩
  · have hne : (s.toList == []) = false := by
      rw [beq_eq_false_iff_ne]
      intro h
      exact h0 ((size_list s).1 h)
    have hne2 : ¬ s.toList = [] := fun h => h0 ((size_list s).1 h)
    have hsi : (s.size : Int) ≤ 1000000 := by omega
    by_cases h1 : 65536 < s.size
    · have HV := Lib.hid (wrg_long s h1)
      have hd : decide ((65536 : Int) < (s.size : Int)) = true := decide_eq_true (by omega)
      clear h0
      go_enter Tryd.func32, Tryd.ntmps32
      go_wp2
      go_ret
      exact ⟨retE HV.out.symm, rfl⟩
    · have HV := Lib.hid (wrg_ok s h0 (by omega))
      have hd : decide ((65536 : Int) < (s.size : Int)) = false := decide_eq_false (by omega)
      clear h0
      go_enter Tryd.func32, Tryd.ntmps32
      go_wp2
      go_ret
      exact ⟨retE HV.out.symm, rfl⟩
set_option maxRecDepth 100000 in
theorem rwrong_any (s : ByteArray) (w : World) (hs : s.size ≤ 1000000) : Calls Tryd.prog 31 #[.string s] w fun e w' => e = .returned (.int .i64 (wrg s)) ∧ w = w' := by
  by_cases h0 : s.size = 0
  · have hse := str_empty s h0
    subst hse
    go_enter Tryd.func31, Tryd.ntmps31
    go_wp2
    go_ret
    exact ⟨rfl, rfl⟩
  · have hne : (s.toList == []) = false := by
      rw [beq_eq_false_iff_ne]
      intro h
      exact h0 ((size_list s).1 h)
    have hne2 : ¬ s.toList = [] := fun h => h0 ((size_list s).1 h)
    have hsi : (s.size : Int) ≤ 1000000 := by omega
    by_cases h1 : 65536 < s.size
    · have HV := Lib.hid (wrg_long s h1)
      have hd : decide ((65536 : Int) < (s.size : Int)) = true := decide_eq_true (by omega)
      clear h0
      go_enter Tryd.func31, Tryd.ntmps31
      go_wp2
      go_ret
      exact ⟨retE HV.out.symm, rfl⟩
    · have HV := Lib.hid (wrg_ok s h0 (by omega))
      have hd : decide ((65536 : Int) < (s.size : Int)) = false := decide_eq_false (by omega)
      clear h0
      go_enter Tryd.func31, Tryd.ntmps31
      go_wp2
      go_ret
      exact ⟨retE HV.out.symm, rfl⟩
theorem tl_size (x : Nat) : (⟨(tl x).toArray⟩ : ByteArray).size = 4 := rfl
set_option maxRecDepth 100000 in
theorem rput14_any (s : ByteArray) (w : World) (hs : s.size ≤ 90000) : Calls Tryd.prog 29 #[.string s] w fun e w' => e = .returned (.string (frm s)) ∧ Below w.heap.size w w' := by
  have hsz : (s ++ ⟨(tl (on 0 s.data.toList)).toArray⟩ : ByteArray).size = s.size + 4 := by rw [ByteArray.size_append, tl_size]
  obtain ⟨T, hT⟩ : ∃ T : ByteArray, T = ⟨(tl (on 0 s.data.toList)).toArray⟩ := ⟨_, rfl⟩
  have HP := Lib.hid (show ∀ W : World, Calls Tryd.prog 84 #[.string (s ++ T)] W fun e w' => e = .returned (.string (frm s)) ∧ Below W.heap.size W w' from fun W => (refPutText_any (s ++ T) W (by rw [hT, hsz]; omega)).mono fun e w' ⟨he, hb⟩ => ⟨by rw [he, hT, hsz]; rfl, hb⟩)
  have HO := Lib.hid (refOn_any 0 s w (by omega) (by omega))
  have HL := Lib.hid (show ∀ W : World, Calls Tryd.prog 85 #[.int .u32 (on 0 s.data.toList : Nat)] W fun e w' => e = .returned (.string T) ∧ Below W.heap.size W w' from fun W => by rw [hT]; exact refTail_any _ W (on_lt 0 _))
  have hTz : T.size = 4 := by rw [hT]; rfl
  generalize on 0 s.data.toList = x at *
  clear hT hsz
  go_enter Tryd.func29, Tryd.ntmps29
  go_wp2_with fail
  refine HO.out.mono ?_
  rintro e w1 ⟨rfl, hb⟩
  have B1 := Lib.hid hb
  clear hb HO
  go_wp2_with fail
  refine (HL.out w1).mono ?_
  rintro e w2 ⟨rfl, hb⟩
  have B2 := Lib.hid (B1.out.trans (hb.mono B1.out.size))
  clear hb HL
  go_wp2_with fail
  refine (HP.out w2).mono ?_
  rintro e w3 ⟨rfl, hb⟩
  have B3 := Lib.hid (B2.out.trans (hb.mono B2.out.size))
  clear hb HP
  go_wp2_with fail
  go_ret
  exact ⟨rfl, B3.out⟩
/-- a row's answer -/
def rowV (ss : List ByteArray) : Value := .tuple #[.string (rowT ss), .int .i64 (rowE ss)]
theorem rowV_ok (ss : List ByteArray) (h : rowE ss = 0) : rowV ss = .tuple #[.string ⟨(catF ss).toArray⟩, .int .i64 0] := by unfold rowV rowT; rw [if_pos h, h]
theorem rowV_no (ss : List ByteArray) (x : Int) (h : rowE ss = x) (hx : x ≠ 0) : rowV ss = .tuple #[.string ⟨#[]⟩, .int .i64 x] := by unfold rowV rowT; rw [if_neg (by rw [h]; exact hx), h]
set_option maxHeartbeats 1000000 in
set_option maxRecDepth 100000 in
theorem row_any (a : Option Addr) (len cap : Nat) (ss : List ByteArray) (w : World) (hT : Tab w) (hsl : StrS w a len ss) (hle : len ≤ 60) (hn : (catS ss).length ≤ 5000) :
    Calls Tryd.prog 27 #[.slice a len cap] w fun e w' => e = .returned (rowV ss) ∧ Below w.heap.size w w' := by
  have HT := Lib.hid hT
  have HS := Lib.hid hsl
  have HN := Lib.hid hn
  clear hT hsl hn
  go_enter Tryd.func27, Tryd.ntmps27
  go_wp2_with fail
  obtain ⟨w0, hw0⟩ : ∃ w0, w0 = w.alloc (.cells #[.pointer none, .slice none 0 0] 106) := ⟨_, rfl⟩
  have H0 := Lib.hid (show Bld w0 w.heap.size w.heap.size [] by rw [hw0]; exact Bld.new w)
  have B0 := Lib.hid (show Below w.heap.size w w0 by rw [hw0]; exact (Below.refl _ w).alloc (Nat.le_refl _) _)
  have HC0 := Lib.hid (show w0.heap[w.heap.size]? = some (.cells #[.pointer none, .slice none 0 0] 106 (0, 0)) by rw [hw0]; exact heap_alloc_new w _)
  first | rw [← hw0] | skip
  go_loopw [6, 7, 10] (fun _ _ i wr => ∃ (k : Nat), i = .int .i64 (k : Int) ∧ k ≤ len ∧ Bld wr w.heap.size w.heap.size (catF (ss.take k)) ∧ (k = 0 → wr.heap[w.heap.size]? = some (.cells #[.pointer none, .slice none 0 0] 106 (0, 0))) ∧ rowE (ss.take k) = 0 ∧ Below w.heap.size w wr) (fun _ _ i _ => len - (intOf i).toNat)
  case atStart =>
    first
      | exact ⟨0, rfl, Nat.zero_le _, H0.out, fun _ => HC0.out, rfl, B0.out⟩
      | (rw [← hw0]; exact ⟨0, rfl, Nat.zero_le _, H0.out, fun _ => HC0.out, rfl, B0.out⟩)
  case round =>
    obtain ⟨k, rfl, hk, hbl, hk0, hre, hb⟩ := hrel
    have HBL := Lib.hid hbl
    have HK0 := Lib.hid hk0
    have HR := Lib.hid hre
    have HB := Lib.hid hb
    clear hbl hk0 hre hb hw0 H0 B0 HC0
    by_cases hlt : k < len
    · obtain ⟨b, off, ha, hcl⟩ := HS.out.2 (by omega)
      subst ha
      have hl := HS.out.1
      have hkn : k < ss.length := by omega
      have cK := (HB.out.cell (p := ⟨b, off + k, none⟩) (World.block_lt_of_cell? w _ (hcl k hkn))).trans (hcl k hkn)
      obtain ⟨t, ht⟩ : ∃ t, t = ss[k] := ⟨_, rfl⟩
      rw [← ht] at cK
      have hts := catS_one_le ss k hkn
      have hcf := catF_take ss k hkn
      have hcl2 := catF_len (ss.take k)
      have hcl3 := catS_take_len ss k
      rw [List.length_take] at hcl2
      rw [← ht] at hts hcf
      have hN := HN.out
      have HCF := Lib.hid hcf
      have hcl4 : (catF (ss.take k)).length ≤ 6000 := by omega
      have hts2 : t.size ≤ 5000 := by omega
      by_cases hw : wrg t = 0
      · have HRE := Lib.hid (rowE_take ss k hkn HR.out (by rw [← ht]; exact hw))
        have HCH := Lib.hid (check_any t wr (by omega))
        rw [hw] at HCH
        have HCL := Lib.hid hcl4
        clear hcl hkn ht hcf hcl2 hcl3 hcl4 hN hts hl hw
        go_wp2_with fail
        refine HCH.out.mono ?_
        rintro e w1 ⟨rfl, rfl⟩
        clear HCH
        go_wp2_with fail
        refine (seal_any t wr (HT.out.later HB.out) (by omega)).mono ?_
        rintro e w1 ⟨rfl, hb⟩
        have B1 := Lib.hid (HB.out.trans (hb.mono HB.out.size))
        have hblk := hb
        obtain ⟨T, hTe⟩ : ∃ T : ByteArray, T = t ++ ⟨(tl (on 0 t.data.toList)).toArray⟩ := ⟨_, rfl⟩
        have hTz : T.size = t.size + 4 := by rw [hTe, ByteArray.size_append]; rfl
        have HF := Lib.hid (show (⟨(put T.size).toArray⟩ ++ T : ByteArray) = frm t by rw [hTz, hTe]; rfl)
        rw [← hTe]
        have HKB := Lib.hid (show Bld w1 w.heap.size w.heap.size (catF (ss.take k)) from HBL.out.imp (fun x => bld_later x hblk) (fun x => bld_later x hblk))
        clear hb hblk hTe
        go_wp2_with fail
        refine (putText_any T w1 (by omega)).mono ?_
        rintro e w2 ⟨rfl, hb⟩
        have B2 := Lib.hid (B1.out.trans (hb.mono B1.out.size))
        have HKB2 := Lib.hid (show Bld w2 w.heap.size w.heap.size (catF (ss.take k)) from HKB.out.imp (fun x => bld_later x hb) (fun x => bld_later x hb))
        rw [HF.out]
        clear hb hTz HF
        have hfz := frm_le t
        go_wp2_with fail
        refine (write_any w.heap.size w.heap.size _ (frm t) w2 HKB2.out (by have := HCL.out; omega) B2.out.size).mono ?_
        rintro e w3 ⟨rfl, h3, hb3⟩
        have H3 := Lib.hid h3
        have B3 := Lib.hid (B2.out.trans hb3)
        clear h3 hb3
        go_wp2_with fail
        go_roundw
        case rel => exact ⟨k + 1, by go_num, by omega, by rw [HCF.out]; exact H3.out, fun h => by omega, HRE.out, B3.out⟩
        case measure => simp [intOf]; omega
      · have HV := Lib.hid (rowV_no ss (wrg t) (by rw [rowE_stop ss k hkn HR.out (by rw [← ht]; exact hw), ← ht]) hw)
        have HCH := Lib.hid (check_any t wr (by omega))
        obtain ⟨x, hx⟩ : ∃ x, wrg t = x := ⟨_, rfl⟩
        rw [hx] at HCH HV hw
        have hd : (x != 0) = true := by simpa using hw
        have hd2 : (x == 0) = false := by simpa using hw
        clear hcl hkn ht hcf hcl2 hcl3 hcl4 hN hts hl hw hx
        go_wp2_with fail
        refine HCH.out.mono ?_
        rintro e w1 ⟨rfl, rfl⟩
        clear HCH
        go_wp2_with fail
        go_ret2
        exact ⟨congrArg Ending.returned HV.out.symm, HB.out⟩
    · obtain rfl : k = len := by omega
      have hl := HS.out.1
      have hfin : ss.take k = ss := List.take_of_length_le (by omega)
      rw [hfin] at HBL HR
      have HV := Lib.hid (rowV_ok ss HR.out)
      clear hfin
      by_cases hk00 : k = 0
      · have hss : ss = [] := List.length_eq_zero_iff.1 (by omega)
        have HC := Lib.hid (HK0.out hk00)
        have HVE := Lib.hid (show (⟨(catF ss).toArray⟩ : ByteArray) = ⟨#[]⟩ by rw [hss]; rfl)
        clear hk00 hss hl
        go_wp2_with fail
        refine (bstr_nil w.heap.size _ wr HC.out).mono ?_
        rintro e w1 ⟨rfl, hb⟩
        have B1 := Lib.hid (HB.out.trans (hb.mono HB.out.size))
        clear hb
        go_wp2_with fail
        go_ret2
        exact ⟨(congrArg Ending.returned (HV.out.trans (congrArg (fun z => Value.tuple #[.string z, .int .i64 0]) HVE.out))).symm, B1.out⟩
      · have hne : catF ss ≠ [] := by
          cases ss with
          | nil => exact absurd hl.symm hk00
          | cons s r =>
            intro h
            have h1 : (catF (s :: r)).length = (frm s).size + (catF r).length := by simp [catF]
            rw [h, frm_size] at h1
            simp at h1
            omega
        have HS2 := Lib.hid (bstr_some w.heap.size w.heap.size (catF ss) wr HBL.out hne)
        clear hne hl hk00
        go_wp2_with fail
        refine HS2.out.mono ?_
        rintro e w1 ⟨rfl, hb⟩
        have B1 := Lib.hid (HB.out.trans hb)
        clear hb HS2
        go_wp2_with fail
        go_ret2
        exact ⟨congrArg Ending.returned HV.out.symm, B1.out⟩
end Go.Proofs.YtjmfmbokphagaaaDoor
