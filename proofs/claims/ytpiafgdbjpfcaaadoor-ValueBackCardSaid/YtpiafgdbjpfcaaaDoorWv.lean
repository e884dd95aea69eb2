/- The contract of sha.Unhex over this translation. Conditions: texts of at most a million bytes. -/
import Derived.Test.YtpiafgdbjpfcaaaDoorWu
namespace Go.Proofs.YtpiafgdbjpfcaaaDoor
open Go.RowKit Hm

theorem unhexL_app : ∀ (t r m : List UInt8), unhexL t = some m → unhexL (t ++ r) = (unhexL r).map (m ++ ·)
  | [], r, m, h => by
    simp [unhexL] at h
    subst h
    simp
  | [_], _, _, h => by simp [unhexL] at h
  | a :: b :: t, r, m, h => by
    rw [unhexL] at h
    show unhexL (a :: b :: (t ++ r)) = _
    rw [unhexL]
    cases ha : dig a with
    | none => rw [ha] at h; cases h
    | some x =>
      cases hb : dig b with
      | none => rw [ha, hb] at h; cases h
      | some y =>
        rw [ha, hb] at h
        simp only [Option.map_eq_some_iff] at h
        obtain ⟨q, hq, rfl⟩ := h
        simp only
        rw [unhexL_app t r q hq, Option.map_map]
        rfl
theorem unhexL_odd : ∀ (t : List UInt8), t.length % 2 = 1 → unhexL t = none
  | [], h => by simp at h
  | [_], _ => rfl
  | a :: b :: t, h => by
    rw [unhexL, unhexL_odd t (by simp at h; omega)]
    split <;> simp
def unhexV (l : List UInt8) : Value := match unhexL l with
  | some m => .tuple #[.string ⟨m.toArray⟩, .bool true]
  | none => .tuple #[.string ⟨#[]⟩, .bool false]
theorem unhexV_some (l m : List UInt8) (h : unhexL l = some m) : unhexV l = .tuple #[.string ⟨m.toArray⟩, .bool true] := by unfold unhexV; rw [h]
theorem unhexV_none (l : List UInt8) (h : unhexL l = none) : unhexV l = .tuple #[.string ⟨#[]⟩, .bool false] := by unfold unhexV; rw [h]
theorem take2 (l : List UInt8) (p : Nat) (a b : UInt8) (ha : l[p]? = some a) (hb : l[p + 1]? = some b) : l.take (p + 2) = l.take p ++ [a, b] := by
  have h1 : p < l.length := by
    rcases Nat.lt_or_ge p l.length with h | h
    · exact h
    · rw [List.getElem?_eq_none h] at ha; cases ha
  have h2 : p + 1 < l.length := by
    rcases Nat.lt_or_ge (p + 1) l.length with h | h
    · exact h
    · rw [List.getElem?_eq_none h] at hb; cases hb
  rw [List.getElem?_eq_getElem h1] at ha
  rw [List.getElem?_eq_getElem h2] at hb
  rw [List.take_succ_eq_append_getElem h2, List.take_succ_eq_append_getElem h1, Option.some.inj ha, Option.some.inj hb]
  simp
theorem unhexL_two (l m : List UInt8) (p : Nat) (a b : UInt8) (x y : Nat) (ha : l[p]? = some a) (hb : l[p + 1]? = some b) (hx : dig a = some x) (hy : dig b = some y) (h : unhexL (l.take p) = some m) : unhexL (l.take (p + 2)) = some (m ++ [UInt8.ofNat (16 * x + y)]) := by
  rw [take2 l p a b ha hb, unhexL_app _ _ m h]
  simp [unhexL, hx, hy]
theorem unhexL_bad (l m : List UInt8) (p : Nat) (a b : UInt8) (ha : l[p]? = some a) (hb : l[p + 1]? = some b) (hn : dig a = none ∨ dig b = none) (h : unhexL (l.take p) = some m) : unhexL l = none := by
  have e : l = l.take p ++ (a :: b :: l.drop (p + 2)) := by
    have h1 := take2 l p a b ha hb
    have h2 := List.take_append_drop (p + 2) l
    rw [h1] at h2
    rw [List.append_assoc] at h2
    exact h2.symm
  rw [e, unhexL_app _ _ m h, unhexL]
  rcases hn with hn | hn
  · rw [hn]; rfl
  · rw [hn]
    cases dig a <;> rfl
theorem unhexL_len : ∀ (n : Nat) (t m : List UInt8), t.length ≤ n → unhexL t = some m → t.length = 2 * m.length
  | _, [], m, _, h => by simp [unhexL] at h; subst h; rfl
  | _, [_], m, _, h => by simp [unhexL] at h
  | 0, _ :: _ :: _, _, hn, _ => by simp at hn
  | n + 1, a :: b :: r, m, hn, h => by
    rw [unhexL] at h
    cases ha : dig a with
    | none => rw [ha] at h; cases h
    | some x =>
      cases hb : dig b with
      | none => rw [ha, hb] at h; cases h
      | some y =>
        rw [ha, hb] at h
        simp only [Option.map_eq_some_iff] at h
        obtain ⟨q, hq, rfl⟩ := h
        have := unhexL_len n r q (by simp at hn; omega) hq
        simp
        omega
theorem or16 : ∀ x : Fin 16, ∀ y : Fin 16, bits BinOp.or IntKind.i64 (((x.val * 16 : Nat) : Int)) (y.val : Int) = ((16 * x.val + y.val : Nat) : Int) := by decide +kernel
theorem or16n (x y : Nat) (hx : x < 16) (hy : y < 16) : bits BinOp.or IntKind.i64 ((x : Int) * 16) (y : Int) = 16 * (x : Int) + (y : Int) := by
  have h := or16 ⟨x, hx⟩ ⟨y, hy⟩
  simp only at h
  rw [show ((x * 16 : Nat) : Int) = (x : Int) * 16 by omega] at h
  rw [h]
  omega
theorem digitQ (c : UInt8) (v : Int) (hv : digI c = v) (W : World) : Calls Tryd.prog 94 #[.int .u8 (c.toNat : Int)] W fun e w' => e = .returned (.int .i64 v) ∧ w' = W :=
  (digitOf_any c W).mono fun _ _ ⟨h1, h2⟩ => ⟨by rw [h1, hv], h2.symm⟩
theorem hexbyte (x y : Nat) (hx : x < 16) (hy : y < 16) : Value.int .u8 (16 * (x : Int) + (y : Int)) = u8h (UInt8.ofNat (16 * x + y)) := by
  unfold u8h
  rw [UInt8.toNat_ofNat', Nat.mod_eq_of_lt (by omega)]
  congr 1
set_option maxRecDepth 100000 in
set_option maxHeartbeats 1600000 in
theorem unhex_any (s : ByteArray) (w : World) (hs : s.size ≤ 1000000) :
    Calls Tryd.prog 61 #[.string s] w fun e w' => e = .returned (unhexV s.data.toList) ∧ Below w.heap.size w w' := by
  have hn : (s.size : Int) ≤ 1000000 := by omega
  have hsl : s.data.toList.length = s.size := by simp
  by_cases hodd : s.size % 2 = 1
  · have hd : ((s.size : Int) % 2 == 0) = false := by rw [beq_eq_false_iff_ne]; omega
    have hd2 : ((s.size : Int) % 2 != 0) = true := by rw [bne, hd]; rfl
    have HV := Lib.hid (unhexV_none _ (unhexL_odd s.data.toList (by rw [hsl]; exact hodd)))
    clear hodd hsl
    go_enter Tryd.func61, Tryd.ntmps61
    go_wp2
    go_ret2
    exact ⟨congrArg Ending.returned HV.out.symm, Below.refl _ _⟩
  · have hd : ((s.size : Int) % 2 == 0) = true := by rw [beq_iff_eq]; omega
    have hd2 : ((s.size : Int) % 2 != 0) = false := by rw [bne, hd]; rfl
    have HODD := Lib.hid hodd
    have HSL := Lib.hid hsl
    clear hodd hsl
    obtain ⟨i0, hi, hz0, hz1, hz2⟩ := info_parts info_b8h
    have hi0 : i0.bytes * (s.size / 2) ≤ 281474976710656 := by rw [hz2]; omega
    go_enter Tryd.func61, Tryd.ntmps61
    go_wp2_with (refine wpList_make_own w rfl _ _ 59 rfl w.heap.size 5 i0 (.int .u8 0) 1 Tryd.underlying59 hi hz0 hz1 .i64 .i64 ((s.size : Int) / 2) (s.size / 2) rfl rfl (by omega) hi0 (by unfold maxLen; omega) (Nat.le_refl _) ?_)
    intro w1 ho1 hg1
    have HO1 := Lib.hid (show Own 5 w1 w.heap.size (.slice (some ⟨w.heap.size, 0, none⟩) 0 (s.size / 2)) (([] : List UInt8).map u8h) from ho1)
    have HB1 := Lib.hid ((Below.refl w.heap.size w).grown hg1 (Nat.le_refl _) (fun _ h => by cases h))
    clear ho1 hg1 hi hz0 hz1 hz2 hi0 hd hd2
    go_wp2_with fail
    go_loopw [4, 5, 6, 7] (fun v i _ _ wr => ∃ (p : Nat) (m : List UInt8), i = .int .i64 (p : Int) ∧ p ≤ s.size ∧ p % 2 = 0 ∧ Own 5 wr w.heap.size v (m.map u8h) ∧ unhexL (s.data.toList.take p) = some m ∧ Below w.heap.size w wr) (fun _ i _ _ _ => s.size - (intOf i).toNat)
    case atStart => exact ⟨0, [], rfl, Nat.zero_le _, rfl, HO1.out, rfl, HB1.out⟩
    case round =>
      obtain ⟨p, m, rfl, hp, hp2, ho, hm, hb⟩ := hrel
      have HO := Lib.hid ho
      have HB := Lib.hid hb
      have HM := Lib.hid hm
      clear ho hb hm
      by_cases hlt : p < s.size
      · have hlt1 : p + 1 < s.size := by have := HODD.out; omega
        obtain ⟨a, ha⟩ : ∃ a, s[p] = a := ⟨_, rfl⟩
        obtain ⟨b, hbb⟩ : ∃ b, s[p + 1] = b := ⟨_, rfl⟩
        have HA := Lib.hid (show s.data.toList[p]? = some a by rw [List.getElem?_eq_getElem (by rw [HSL.out]; exact hlt), ← ha]; rfl)
        have HB' := Lib.hid (show s.data.toList[p + 1]? = some b by rw [List.getElem?_eq_getElem (by rw [HSL.out]; exact hlt1), ← hbb]; rfl)
        have HP2 := Lib.hid hp2
        clear hp2
        cases hda : dig a with
        | none =>
          obtain ⟨yv, hyv⟩ : ∃ yv, digI b = yv := ⟨_, rfl⟩
          have QA := Lib.hid (digitQ a (-1) (digI_none a hda))
          have QB := Lib.hid (digitQ b yv hyv)
          have HV := Lib.hid (unhexV_none _ (unhexL_bad _ m p a b HA.out HB'.out (Or.inl hda) HM.out))
          clear hda hyv
          go_wp2_with fail
          go_quiet ((go_at_call 94; first | (with_reducible exact Calls.quiet_of_same (QA.out _)) | (with_reducible exact Calls.quiet_of_same (QB.out _))))
          go_wp2_with fail
          go_ret2
          exact ⟨congrArg Ending.returned HV.out.symm, ⟨HB.out.os, HB.out.tape, HB.out.output, HB.out.size, HB.out.block⟩⟩
        | some x =>
          have hx := (hexd_dig a x hda).1
          have QA := Lib.hid (digitQ a (x : Int) (digI_some a x hda))
          cases hdb : dig b with
          | none =>
            have QB := Lib.hid (digitQ b (-1) (digI_none b hdb))
            have HV := Lib.hid (unhexV_none _ (unhexL_bad _ m p a b HA.out HB'.out (Or.inr hdb) HM.out))
            clear hda hdb
            go_wp2_with fail
            go_quiet ((go_at_call 94; first | (with_reducible exact Calls.quiet_of_same (QA.out _)) | (with_reducible exact Calls.quiet_of_same (QB.out _))))
            go_wp2_with fail
            go_ret2
            exact ⟨congrArg Ending.returned HV.out.symm, ⟨HB.out.os, HB.out.tape, HB.out.output, HB.out.size, HB.out.block⟩⟩
          | some y =>
            have hy := (hexd_dig b y hdb).1
            have QB := Lib.hid (digitQ b (y : Int) (digI_some b y hdb))
            have HU := Lib.hid (unhexL_two _ m p a b x y HA.out HB'.out hda hdb HM.out)
            have hml : (m.map u8h).length + 1 ≤ 3000000 := by
              have h1 := unhexL_len _ _ m (Nat.le_refl _) HM.out
              have h2 := List.length_take_le p s.data.toList
              rw [List.length_map]
              omega
            have HML := Lib.hid hml
            have hor := or16n x y hx hy
            have HX := Lib.hid (hexbyte x y hx hy)
            clear hda hdb hml
            go_wp2_with fail
            go_quiet ((go_at_call 94; first | (with_reducible exact Calls.quiet_of_same (QA.out _)) | (with_reducible exact Calls.quiet_of_same (QB.out _))))
            have HBn := Lib.hid (show Below w.heap.size w (wr.drewN nq) from ⟨HB.out.os, HB.out.tape, HB.out.output, HB.out.size, HB.out.block⟩)
            have HON := Lib.hid (show Own 5 (wr.drewN nq) w.heap.size u4 (m.map u8h) from HO.out)
            obtain ⟨W, hW⟩ : ∃ W, W = wr.drewN nq := ⟨_, rfl⟩
            rw [← hW] at HBn HON ⊢
            clear hW
            go_wp2_with (at_builtin; refine wpList_appV rfl (.tmp 37) (.tmp 43) 59 5 (.int .u8 0) 1 rfl Tryd.underlying59 info_b8h rfl (by omega) w.heap.size w (HBn.out.alloc HBn.out.size _) ?c1 u4 (m.map u8h) rfl (HON.out.alloc _) ⟨W.heap.size, 0, none⟩ 1 1 [.int .u8 (16 * (x : Int) + (y : Int))] rfl rfl (Lay.new W _ _) ?c2 HML.out ?_)
            case c1 => have := HBn.out.size; simp; omega
            case c2 => intro u hu; simp at hu; subst hu; rfl
            intro v2 w2 HO2 HB2 HZ2
            go_wp2_with fail
            go_roundw
            case rel => exact ⟨p + 2, m ++ [UInt8.ofNat (16 * x + y)], by go_num, by omega, by have := HP2.out; omega, by
              have h := HO2.out
              rw [HX.out] at h
              rw [List.map_append]
              exact h, HU.out, HB2.out⟩
            case measure => simp [intOf]; omega
      · obtain rfl : p = s.size := by omega
        have hcv := conv_ownH HO.out
        have HV := Lib.hid (unhexV_some _ m (by have h := HM.out; rw [List.take_of_length_le (by rw [HSL.out]; exact Nat.le_refl _)] at h; exact h))
        go_wp2_with fail
        go_ret2
        exact ⟨congrArg Ending.returned HV.out.symm, HB.out⟩
end Go.Proofs.YtpiafgdbjpfcaaaDoor
