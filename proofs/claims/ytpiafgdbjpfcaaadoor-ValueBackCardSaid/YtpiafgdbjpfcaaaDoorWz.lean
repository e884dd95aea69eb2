/- The contract of the document's own Unhex of layer 3 over this translation. Conditions: texts of at most a million bytes. -/
import Derived.Test.YtpiafgdbjpfcaaaDoorWv
namespace Go.Proofs.YtpiafgdbjpfcaaaDoor
open Go.RowKit Hm

theorem plcQ (c : UInt8) (v : Int) (hv : plcI c = v) (W : World) : Calls Tryd.prog 63 #[.int .u8 (c.toNat : Int)] W fun e w' => e = .returned (.int .i64 v) ∧ w' = W :=
  (place_any c W).mono fun _ _ ⟨h1, h2⟩ => ⟨by rw [h1, hv], h2.symm⟩
theorem conv_oneH (w : World) (x : Int) (b : UInt8) (hx : x = (b.toNat : Int)) :
    (convert 59 9 (.slice (some ⟨w.heap.size, 0, none⟩) 1 1)).run Tryd.prog (w.alloc (.cells #[.int .u8 x] 5)) = .ok (.string ⟨#[b]⟩) (w.alloc (.cells #[.int .u8 x] 5)) := by
  subst hx
  exact conv_ownH (xs := [b]) (B := w.heap.size) ⟨rfl, .inr ⟨w.heap.size, 1, #[u8h b], rfl, Nat.le_refl _, heap_alloc_new _ _, by simp, by unfold maxLen; omega, rfl, rfl⟩⟩
theorem str_snocH (S : ByteArray) (m : List UInt8) (a : UInt8) (h : S.data.toList = m) : (S ++ ⟨#[a]⟩).data.toList = m ++ [a] := by
  subst h
  simp
set_option maxRecDepth 100000 in
set_option maxHeartbeats 1600000 in
theorem runhex_any (s : ByteArray) (w : World) (hs : s.size ≤ 1000000) :
    Calls Tryd.prog 26 #[.string s] w fun e w' => e = .returned (unhexV s.data.toList) ∧ Below w.heap.size w w' := by
  have hsi : (s.size : Int) ≤ 1000000 := by omega
  have HSL := Lib.hid (show s.data.toList.length = s.size by simp)
  go_enter Tryd.func26, Tryd.ntmps26
  go_wp2_with fail
  go_loopw [4, 5, 6, 7] (fun v i _ _ wr => ∃ (p : Nat) (m : List UInt8) (S : ByteArray), i = .int .i64 (p : Int) ∧ p ≤ s.size ∧ p % 2 = 0 ∧ v = .string S ∧ S.data.toList = m ∧ unhexL (s.data.toList.take p) = some m ∧ Below w.heap.size w wr) (fun _ i _ _ _ => s.size - (intOf i).toNat)
  case atStart => exact ⟨0, [], ⟨#[]⟩, rfl, Nat.zero_le _, rfl, rfl, rfl, rfl, Below.refl _ _⟩
  case round =>
    obtain ⟨p, m, S, rfl, hp, hp2, rfl, hS, hm, hb⟩ := hrel
    have HS := Lib.hid hS
    have HB := Lib.hid hb
    have HM := Lib.hid hm
    have HP2 := Lib.hid hp2
    clear hS hb hm hp2
    by_cases hlt1 : p + 1 < s.size
    · have hlt : p < s.size := by omega
      obtain ⟨a, ha⟩ : ∃ a, s[p] = a := ⟨_, rfl⟩
      obtain ⟨b, hbb⟩ : ∃ b, s[p + 1] = b := ⟨_, rfl⟩
      have HA := Lib.hid (show s.data.toList[p]? = some a by rw [List.getElem?_eq_getElem (by rw [HSL.out]; exact hlt), ← ha]; rfl)
      have HB' := Lib.hid (show s.data.toList[p + 1]? = some b by rw [List.getElem?_eq_getElem (by rw [HSL.out]; exact hlt1), ← hbb]; rfl)
      cases hda : dig a with
      | none =>
        obtain ⟨yv, hyv⟩ : ∃ yv, plcI b = yv := ⟨_, rfl⟩
        have QA := Lib.hid (plcQ a 16 (plcI_none a hda))
        have QB := Lib.hid (plcQ b yv hyv)
        have HV := Lib.hid (unhexV_none _ (unhexL_bad _ m p a b HA.out HB'.out (Or.inl hda) HM.out))
        clear hda hyv
        go_wp2_with fail
        go_quiet ((go_at_call 63; first | (with_reducible exact Calls.quiet_of_same (QA.out _)) | (with_reducible exact Calls.quiet_of_same (QB.out _))))
        go_wp2_with fail
        go_ret2
        exact ⟨congrArg Ending.returned HV.out.symm, ⟨HB.out.os, HB.out.tape, HB.out.output, HB.out.size, HB.out.block⟩⟩
      | some x =>
        have hx := (hexd_dig a x hda).1
        have QA := Lib.hid (plcQ a (x : Int) (plcI_some a x hda))
        have hx1 : (x : Int) ≤ 15 := by omega
        cases hdb : dig b with
        | none =>
          have QB := Lib.hid (plcQ b 16 (plcI_none b hdb))
          have HV := Lib.hid (unhexV_none _ (unhexL_bad _ m p a b HA.out HB'.out (Or.inr hdb) HM.out))
          clear hda hdb
          go_wp2_with fail
          go_quiet ((go_at_call 63; first | (with_reducible exact Calls.quiet_of_same (QA.out _)) | (with_reducible exact Calls.quiet_of_same (QB.out _))))
          go_wp2_with fail
          go_ret2
          exact ⟨congrArg Ending.returned HV.out.symm, ⟨HB.out.os, HB.out.tape, HB.out.output, HB.out.size, HB.out.block⟩⟩
        | some y =>
          have hy := (hexd_dig b y hdb).1
          have hy1 : (y : Int) ≤ 15 := by omega
          have QB := Lib.hid (plcQ b (y : Int) (plcI_some b y hdb))
          have HU := Lib.hid (unhexL_two _ m p a b x y HA.out HB'.out hda hdb HM.out)
          have hml : S.size ≤ 1000000 := by
            have h1 := unhexL_len _ _ m (Nat.le_refl _) HM.out
            have h2 := List.length_take_le p s.data.toList
            have h3 : S.data.toList.length = S.size := by simp
            rw [HS.out] at h3
            omega
          have HX := Lib.hid (show 16 * (x : Int) + (y : Int) = ((UInt8.ofNat (16 * x + y)).toNat : Int) by
            rw [UInt8.toNat_ofNat', Nat.mod_eq_of_lt (by omega)]
            omega)
          obtain ⟨q, hq⟩ : ∃ q, q = UInt8.ofNat (16 * x + y) := ⟨_, rfl⟩
          rw [← hq] at HX HU
          have HST := Lib.hid (str_snocH S m q HS.out)
          clear hda hdb hq
          go_wp2_with fail
          go_quiet ((go_at_call 63; first | (with_reducible exact Calls.quiet_of_same (QA.out _)) | (with_reducible exact Calls.quiet_of_same (QB.out _))))
          have HBn := Lib.hid (show Below w.heap.size w (wr.drewN nq) from ⟨HB.out.os, HB.out.tape, HB.out.output, HB.out.size, HB.out.block⟩)
          obtain ⟨W, hW⟩ : ∃ W, W = wr.drewN nq := ⟨_, rfl⟩
          rw [← hW] at HBn ⊢
          clear hW
          have hcv := conv_oneH W (16 * (x : Int) + (y : Int)) q HX.out
          go_wp2_with fail
          go_roundw
          case rel => exact ⟨p + 2, _, _, by go_num, by omega, by have := HP2.out; omega, rfl, HST.out, HU.out, HBn.out.alloc HBn.out.size _⟩
          case measure => simp [intOf]; omega
    · by_cases hodd : s.size % 2 = 1
      · have hd : ((s.size : Int) % 2 == 0) = false := by rw [beq_eq_false_iff_ne]; omega
        have hd2 : ((s.size : Int) % 2 != 0) = true := by rw [bne, hd]; rfl
        have HV := Lib.hid (unhexV_none _ (unhexL_odd s.data.toList (by rw [HSL.out]; exact hodd)))
        clear hodd
        go_wp2_with fail
        go_ret2
        exact ⟨congrArg Ending.returned HV.out.symm, HB.out⟩
      · have hd : ((s.size : Int) % 2 == 0) = true := by rw [beq_iff_eq]; omega
        have hd2 : ((s.size : Int) % 2 != 0) = false := by rw [bne, hd]; rfl
        have hps : p = s.size := by have := HP2.out; omega
        have HF := Lib.hid (show S = ⟨m.toArray⟩ by
          apply ByteArray.ext
          rw [← HS.out])
        have HV := Lib.hid (unhexV_some _ m (by have h := HM.out; rw [hps, List.take_of_length_le (by rw [HSL.out]; exact Nat.le_refl _)] at h; exact h))
        clear hps hodd
        go_wp2_with fail
        go_ret2
        exact ⟨(congrArg (fun z => Ending.returned (.tuple #[.string z, .bool true])) HF.out).trans (congrArg Ending.returned HV.out.symm), HB.out⟩
end Go.Proofs.YtpiafgdbjpfcaaaDoor
