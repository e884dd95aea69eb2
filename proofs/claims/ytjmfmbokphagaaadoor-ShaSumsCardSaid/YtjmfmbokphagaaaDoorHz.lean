/- The contracts of the document's own Hex and Unhex of layer 3 over this translation. Conditions: texts of at most a million bytes. -/
import Derived.Test.YtjmfmbokphagaaaDoorHv
namespace Go.Proofs.YtjmfmbokphagaaaDoor
open Go.RowKit Hm

theorem run_digs (n : Nat) (hn : n < 16) (z z1 : Int) (hz : z = (n : Int)) (hz1 : z1 = (n : Int) + 1) (W : World) : (Instr.slice 9 (.string ⟨#[48, 49, 50, 51, 52, 53, 54, 55, 56, 57, 97, 98, 99, 100, 101, 102]⟩) (some (.int .i64 z)) (some (.int .i64 z1)) none).run Tryd.prog W = .ok (.string ⟨#[hexd n]⟩) W := by
  subst hz
  subst hz1
  rw [run_slice_string _ _ _ _ _ _ _ Tryd.underlying9 (by omega) (by omega) (by show (n : Int) + 1 ≤ 16; omega)]
  rcases (show n = 0 ∨ n = 1 ∨ n = 2 ∨ n = 3 ∨ n = 4 ∨ n = 5 ∨ n = 6 ∨ n = 7 ∨ n = 8 ∨ n = 9 ∨ n = 10 ∨ n = 11 ∨ n = 12 ∨ n = 13 ∨ n = 14 ∨ n = 15 by omega) with rfl | rfl | rfl | rfl | rfl | rfl | rfl | rfl | rfl | rfl | rfl | rfl | rfl | rfl | rfl | rfl <;> rfl
theorem str_two (S : ByteArray) (l : List UInt8) (a b : UInt8) (h : S.data.toList = l) : (S ++ ⟨#[a]⟩ ++ ⟨#[b]⟩).data.toList = l ++ [a, b] := by
  subst h
  simp
set_option maxRecDepth 100000 in
set_option maxHeartbeats 1000000 in
theorem rhex_any (s : ByteArray) (w : World) (hs : s.size ≤ 1000000) :
    Calls Tryd.prog 24 #[.string s] w fun e w' => e = .returned (.string ⟨(hexL s.data.toList).toArray⟩) ∧ Below w.heap.size w w' := by
  have hsi : (s.size : Int) ≤ 1000000 := by omega
  go_enter Tryd.func24, Tryd.ntmps24
  go_wp2_with fail
  go_loopw [4, 5, 6, 7] (fun v i _ _ wr => ∃ (k : Nat) (S : ByteArray), i = .int .i64 (k : Int) ∧ k ≤ s.size ∧ v = .string S ∧ S.data.toList = hexL (s.data.toList.take k) ∧ Below w.heap.size w wr) (fun _ i _ _ _ => s.size - (intOf i).toNat)
  case atStart => exact ⟨0, ⟨#[]⟩, rfl, Nat.zero_le _, rfl, rfl, Below.refl _ _⟩
  case round =>
    obtain ⟨k, S, rfl, hk, rfl, hS, hb⟩ := hrel
    have HS := Lib.hid hS
    have HB := Lib.hid hb
    clear hS hb
    by_cases hlt : k < s.size
    · obtain ⟨c, hc⟩ : ∃ c, s[k] = c := ⟨_, rfl⟩
      have HT := Lib.hid (show hexL (s.data.toList.take (k + 1)) = hexL (s.data.toList.take k) ++ [hexd (c.toNat / 16), hexd (c.toNat % 16)] by
        rw [List.take_succ_eq_append_getElem (by simpa using hlt), hexL_snoc, ← hc]
        rfl)
      have hcl : (c.toNat : Int) < 256 := by have := c.toNat_lt; omega
      have hsz : S.size ≤ 2000000 := by
        have h1 := congrArg List.length HS.out
        have h2 := List.length_take_le k s.data.toList
        rw [hexL_len] at h1
        have h3 : S.data.toList.length = S.size := by simp
        omega
      have hd1 := run_digs (c.toNat / 16) (by omega) ((c.toNat : Int) / 16) ((c.toNat : Int) / 16 + 1) (by omega) (by omega)
      have hd2 := run_digs (c.toNat % 16) (by omega) ((c.toNat : Int) % 16) ((c.toNat : Int) % 16 + 1) (by omega) (by omega)
      have HST := Lib.hid (str_two S _ (hexd (c.toNat / 16)) (hexd (c.toNat % 16)) HS.out)
      go_wp2_with fail
      go_quiet (fail)
      go_wp2_with fail
      go_quiet (fail)
      go_wp2_with fail
      go_roundw
      case rel => exact ⟨k + 1, _, by go_num, by omega, rfl, by rw [HT.out]; exact HST.out, ⟨HB.out.os, HB.out.tape, HB.out.output, HB.out.size, HB.out.block⟩⟩
      case measure => simp [intOf]; omega
    · obtain rfl : k = s.size := by omega
      have HF := Lib.hid (show S = ⟨(hexL s.data.toList).toArray⟩ by
        have h := HS.out
        rw [List.take_of_length_le (by simp)] at h
        apply ByteArray.ext
        rw [← h])
      go_wp2_with fail
      go_ret
      exact ⟨congrArg (fun z => Ending.returned (.string z)) HF.out, HB.out⟩
theorem plcQ (c : UInt8) (v : Int) (hv : plcI c = v) (W : World) : Calls Tryd.prog 79 #[.int .u8 (c.toNat : Int)] W fun e w' => e = .returned (.int .i64 v) ∧ w' = W :=
  (place_any c W).mono fun _ _ ⟨h1, h2⟩ => ⟨by rw [h1, hv], h2.symm⟩
theorem conv_oneB (w : World) (x : Int) (b : UInt8) (hx : x = (b.toNat : Int)) :
    (convert 102 9 (.slice (some ⟨w.heap.size, 0, none⟩) 1 1)).run Tryd.prog (w.alloc (.cells #[.int .u8 x] 5)) = .ok (.string ⟨#[b]⟩) (w.alloc (.cells #[.int .u8 x] 5)) := by
  subst hx
  exact conv_ownB (xs := [b]) (B := w.heap.size) ⟨rfl, .inr ⟨w.heap.size, 1, #[u8v b], rfl, Nat.le_refl _, heap_alloc_new _ _, by simp, by unfold maxLen; omega, rfl, rfl⟩⟩
theorem str_snoc (S : ByteArray) (m : List UInt8) (a : UInt8) (h : S.data.toList = m) : (S ++ ⟨#[a]⟩).data.toList = m ++ [a] := by
  subst h
  simp
set_option maxRecDepth 100000 in
set_option maxHeartbeats 1600000 in
theorem runhex_any (s : ByteArray) (w : World) (hs : s.size ≤ 1000000) :
    Calls Tryd.prog 22 #[.string s] w fun e w' => e = .returned (unhexV s.data.toList) ∧ Below w.heap.size w w' := by
  have hsi : (s.size : Int) ≤ 1000000 := by omega
  have HSL := Lib.hid (show s.data.toList.length = s.size by simp)
  go_enter Tryd.func22, Tryd.ntmps22
  go_wp2_with fail
  go_loopw [4, 5, 6, 7] (fun v i _ _ wr => ∃ (p : Nat) (m : List UInt8) (S : ByteArray), i = .int .i64 (p : Int) ∧ p ≤ s.size ∧ p % 2 = 0 ∧ v = .string S ∧ S.data.toList = m ∧ unhexL (s.data.toList.take p) = some m ∧ Below w.heap.size w wr) (fun _ i _ _ _ => s.size - (intOf i).toNat)
  case atStart => exact ⟨0, [], ⟨#[]⟩, rfl, Nat.zero_le _, rfl, rfl, rfl, rfl, Below.refl _ _⟩
  case round =>
    obtain ⟨p, m, S, rfl, hp, hp2, rfl, hS, hm, hb⟩ := hrel
    have HS := Lib.hid hS
    have HB := Lib.hid hb
    have HM := Lib.hid hm
    have HP2 := Lib.hid hp2
    clear hS hb hm hp2
    by_cases hlt1 : p + 1 < s.size
    · have hlt : p < s.size := by omega
      obtain ⟨a, ha⟩ : ∃ a, s[p] = a := ⟨_, rfl⟩
      obtain ⟨b, hbb⟩ : ∃ b, s[p + 1] = b := ⟨_, rfl⟩
      have HA := Lib.hid (show s.data.toList[p]? = some a by rw [List.getElem?_eq_getElem (by rw [HSL.out]; exact hlt), ← ha]; rfl)
      have HB' := Lib.hid (show s.data.toList[p + 1]? = some b by rw [List.getElem?_eq_getElem (by rw [HSL.out]; exact hlt1), ← hbb]; rfl)
      cases hda : dig a with
      | none =>
        obtain ⟨yv, hyv⟩ : ∃ yv, plcI b = yv := ⟨_, rfl⟩
        have QA := Lib.hid (plcQ a 16 (plcI_none a hda))
        have QB := Lib.hid (plcQ b yv hyv)
        have HV := Lib.hid (unhexV_none _ (unhexL_bad _ m p a b HA.out HB'.out (Or.inl hda) HM.out))
        clear hda hyv
        go_wp2_with fail
        go_quiet ((go_at_call 79; first | (with_reducible exact Calls.quiet_of_same (QA.out _)) | (with_reducible exact Calls.quiet_of_same (QB.out _))))
        go_wp2_with fail
        go_ret2
        exact ⟨congrArg Ending.returned HV.out.symm, ⟨HB.out.os, HB.out.tape, HB.out.output, HB.out.size, HB.out.block⟩⟩
      | some x =>
        have hx := (hexd_dig a x hda).1
        have QA := Lib.hid (plcQ a (x : Int) (plcI_some a x hda))
        have hx1 : (x : Int) ≤ 15 := by omega
        cases hdb : dig b with
        | none =>
          have QB := Lib.hid (plcQ b 16 (plcI_none b hdb))
          have HV := Lib.hid (unhexV_none _ (unhexL_bad _ m p a b HA.out HB'.out (Or.inr hdb) HM.out))
          clear hda hdb
          go_wp2_with fail
          go_quiet ((go_at_call 79; first | (with_reducible exact Calls.quiet_of_same (QA.out _)) | (with_reducible exact Calls.quiet_of_same (QB.out _))))
          go_wp2_with fail
          go_ret2
          exact ⟨congrArg Ending.returned HV.out.symm, ⟨HB.out.os, HB.out.tape, HB.out.output, HB.out.size, HB.out.block⟩⟩
        | some y =>
          have hy := (hexd_dig b y hdb).1
          have hy1 : (y : Int) ≤ 15 := by omega
          have QB := Lib.hid (plcQ b (y : Int) (plcI_some b y hdb))
          have HU := Lib.hid (unhexL_two _ m p a b x y HA.out HB'.out hda hdb HM.out)
          have hml : S.size ≤ 1000000 := by
            have h1 := unhexL_len _ _ m (Nat.le_refl _) HM.out
            have h2 := List.length_take_le p s.data.toList
            have h3 : S.data.toList.length = S.size := by simp
            rw [HS.out] at h3
            omega
          have HX := Lib.hid (show 16 * (x : Int) + (y : Int) = ((UInt8.ofNat (16 * x + y)).toNat : Int) by
            rw [UInt8.toNat_ofNat', Nat.mod_eq_of_lt (by omega)]
            omega)
          obtain ⟨q, hq⟩ : ∃ q, q = UInt8.ofNat (16 * x + y) := ⟨_, rfl⟩
          rw [← hq] at HX HU
          have HST := Lib.hid (str_snoc S m q HS.out)
          clear hda hdb hq
          go_wp2_with fail
          go_quiet ((go_at_call 79; first | (with_reducible exact Calls.quiet_of_same (QA.out _)) | (with_reducible exact Calls.quiet_of_same (QB.out _))))
          have HBn := Lib.hid (show Below w.heap.size w (wr.drewN nq) from ⟨HB.out.os, HB.out.tape, HB.out.output, HB.out.size, HB.out.block⟩)
          obtain ⟨W, hW⟩ : ∃ W, W = wr.drewN nq := ⟨_, rfl⟩
          rw [← hW] at HBn ⊢
          clear hW
          have hcv := conv_oneB W (16 * (x : Int) + (y : Int)) q HX.out
          go_wp2_with fail
          go_roundw
          case rel => exact ⟨p + 2, _, _, by go_num, by omega, by have := HP2.out; omega, rfl, HST.out, HU.out, HBn.out.alloc HBn.out.size _⟩
          case measure => simp [intOf]; omega
    · by_cases hodd : s.size % 2 = 1
      · have hd : ((s.size : Int) % 2 == 0) = false := by rw [beq_eq_false_iff_ne]; omega
        have hd2 : ((s.size : Int) % 2 != 0) = true := by rw [bne, hd]; rfl
        have HV := Lib.hid (unhexV_none _ (unhexL_odd s.data.toList (by rw [HSL.out]; exact hodd)))
        clear hodd
        go_wp2_with fail
        go_ret2
        exact ⟨congrArg Ending.returned HV.out.symm, HB.out⟩
      · have hd : ((s.size : Int) % 2 == 0) = true := by rw [beq_iff_eq]; omega
        have hd2 : ((s.size : Int) % 2 != 0) = false := by rw [bne, hd]; rfl
        have hps : p = s.size := by have := HP2.out; omega
        have HF := Lib.hid (show S = ⟨m.toArray⟩ by
          apply ByteArray.ext
          rw [← HS.out])
        have HV := Lib.hid (unhexV_some _ m (by have h := HM.out; rw [hps, List.take_of_length_le (by rw [HSL.out]; exact Nat.le_refl _)] at h; exact h))
        clear hps hodd
        go_wp2_with fail
        go_ret2
        exact ⟨(congrArg (fun z => Ending.returned (.tuple #[.string z, .bool true])) HF.out).trans (congrArg Ending.returned HV.out.symm), HB.out⟩
end Go.Proofs.YtjmfmbokphagaaaDoor
