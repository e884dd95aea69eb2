/- The contract of (*sha.Hash).add over this translation. -/
import Derived.Test.YtiflieaemgamkaaDoorHx
import Derived.Test.YtiflieaemgamkaaDoorHy
namespace Go.Proofs.YtiflieaemgamkaaDoor
open Go.RowKit Hm

theorem mixC : MixC := mix_any
theorem HTab.only {w w' : World} {B : Nat} (h : HTab w) (k : Only B w w') (hB : 0 ≠ B) : HTab w' := fun j hj => by
  have hl := World.block_lt_of_cell? w _ (h j hj)
  have hb := k.block 0 hl (fun e => hB (by first | exact Option.some.inj e | exact (Option.some.inj e).symm))
  rw [← h j hj]
  unfold World.cell?
  first | rw [hb] | simp only [hb]
theorem SL.part {w : World} {B : Nat} {l t b : List UInt8} {n : Nat} (H : SH w B (blk l) (splice b (l.length % 64) t) n) (hn : n = l.length + t.length) (hb : b.length = 64)
    (hp : b.take (l.length % 64) = l.drop (64 * (l.length / 64))) (h : l.length % 64 + t.length < 64) : SL w B (l ++ t) := by
  obtain ⟨e1, e2, e3⟩ := blk_part l t h
  refine ⟨_, by rw [e1, List.length_append, ← hn]; exact H, ?_⟩
  rw [e2, e3, splice_take b t _ (by omega), hp, List.drop_append_of_le_length (by omega)]
theorem SL.full {w : World} {B : Nat} {l t b b' : List UInt8} {n : Nat} (H : SH w B (mix (blk l) (splice b (l.length % 64) t)) b' n) (hn : n = l.length + t.length) (hb : b.length = 64)
    (hp : b.take (l.length % 64) = l.drop (64 * (l.length / 64))) (h : l.length % 64 + t.length = 64) : SL w B (l ++ t) := by
  obtain ⟨e1, e2⟩ := blk_full l t b h hb hp
  refine ⟨b', by rw [e1, List.length_append, ← hn]; exact H, ?_⟩
  rw [e2, List.take_zero, List.drop_of_length_le]
  have := Nat.div_add_mod (l ++ t).length 64
  omega
theorem len_b : Tryd.prog.arrayLen 71 = 64 := by kernel_rfl
theorem elem_b : Tryd.prog.elem 71 = 5 := by kernel_rfl
theorem und_b : Tryd.prog.underlying 71 = some (.array (Tryd.prog.arrayLen 71) (Tryd.prog.elem 71)) := by rw [len_b, elem_b]; exact Tryd.underlying71
theorem info_b : (Tryd.prog.info? 5).map (fun i => (i.zero, i.size, i.bytes)) = some (some (.int .u8 0), 1, 1) := by kernel_rfl
theorem size_of_b (W : World) : (sizeOf 5).run Tryd.prog W = .ok 1 W := by
  obtain ⟨i0, hi, _, hz1, _⟩ := info_parts info_b
  simp [sizeOf, typeInfo, hi, hz1]
theorem sl64 (B m : Nat) (hm : m < 64) (W : World) : (Instr.sliceAt 71 (.pointer (some ⟨B, 9, none⟩)) (some (.int .i64 (m : Int))) none none).run Tryd.prog W = .ok (.slice (some ⟨B, 9 + m, none⟩) (64 - m) (64 - m)) W := by
  rw [run_sliceAt_array_l W _ ⟨B, 9, none⟩ und_b .i64 m (by omega) (by rw [len_b]; omega), elem_b, len_b, size_of_b]
  simp [Result.andThen, slicedAt, Addr.add]
  rw [if_neg (by omega)]
  split
  · simp [*]
  · rfl
set_option maxRecDepth 100000 in
set_option maxHeartbeats 2000000 in
theorem add_any (B : Nat) (l : List UInt8) (t : ByteArray) (w : World) (H : SL w B l) (hT : HTab w) (hB : 0 ≠ B) (hn : l.length + t.size ≤ 1152921504606846976) :
    Calls Tryd.prog 27 #[.pointer (some ⟨B, 0, none⟩), .string t] w fun e w' => e = .returned (.tuple #[]) ∧ SL w' B (l ++ t.data.toList) ∧ Only B w w' := by
  have HH := Lib.hid H
  have HT := Lib.hid hT
  have HB := Lib.hid hB
  have HN := Lib.hid hn
  clear H hT hB hn
  go_enter Tryd.func27, Tryd.ntmps27
  go_wp2_with fail
  go_loopw [1, 4] (fun s _ wr => ∃ (u : List UInt8) (r : ByteArray), s = .string r ∧ Hid (u ++ r.data.toList = t.data.toList) ∧ SL wr B (l ++ u) ∧ Only B w wr) (fun s _ _ => match s with | .string r => r.size | _ => 0)
  case atStart => exact ⟨[], t, rfl, rfl, by rw [List.append_nil]; exact HH.out, Only.refl B w⟩
  case round =>
    obtain ⟨u, r, rfl, HU, hsl, hon⟩ := hrel
    have HSL := Lib.hid hsl
    have HON := Lib.hid hon
    clear hsl hon
    by_cases hr : 0 < r.size
    · obtain ⟨b, h1, h2⟩ := HSL.out
      obtain ⟨v, hv⟩ : ∃ v, v = l ++ u := ⟨_, rfl⟩
      rw [← hv] at h1 h2
      have hvl : v.length + r.size = l.length + t.size := by
        have e1 := congrArg List.length HU.out
        have e2 : r.data.toList.length = r.size := by simp
        have e3 : t.data.toList.length = t.size := by simp
        rw [List.length_append, e2, e3] at e1
        rw [hv, List.length_append]
        omega
      obtain ⟨n, hnl⟩ : ∃ n, n = v.length := ⟨_, rfl⟩
      obtain ⟨m, hm⟩ : ∃ m, m = n % 64 := ⟨_, rfl⟩
      obtain ⟨p, hp⟩ : ∃ p, Nat.min r.size (64 - m) = p := ⟨_, rfl⟩
      rw [← hnl] at h1 h2 hvl
      rw [← hm] at h2
      have hn60 : (n : Int) ≤ 1152921504606846976 := by have := HN.out; omega
      have hm64 : m < 64 := by omega
      have hmi : (n : Int) % 64 = (m : Int) := by omega
      have hmt : (n : Int).tmod 64 = (m : Int) := by rw [Int.tmod_eq_emod_of_nonneg (by omega)]; exact hmi
      have hp64 : p ≤ 64 - m := by rw [← hp]; exact Nat.min_le_right _ _
      have hpr : p ≤ r.size := by rw [← hp]; exact Nat.min_le_left _ _
      have hp0 : 0 < p := by rw [← hp]; exact Nat.lt_min.2 ⟨hr, by omega⟩
      have HP := Lib.hid hp
      have H1 := Lib.hid (show SH wr.drew B (blk v) b n from h1.kept rfl)
      have H2 := Lib.hid h2
      have HV := Lib.hid hv
      have HNL := Lib.hid hnl
      have HM := Lib.hid hm
      have cc := h1.count
      have hsl := sl64 B m hm64
      clear h1 h2 hp hv hnl hm hvl
      go_wp2_with fail
      go_region_law ((refine step_copyS ?_ (.tmp 16) (.tmp 17) ?_ B (blk v) b n m p H1.out r ?_ ?_ ?_ ?_ ?_; (rfl); (rfl); (rfl); (rfl); (exact Nat.le_of_lt hm64); (exact HP.out); (intro w3 H3 O3)))
      all_goals
        have c3 := H3.out.count
        have f3 := H3.out.free 73
        have OX := Lib.hid (HON.out.drew.trans (O3.out.set 73 (.int .i64 ((n : Int) + (p : Int)))))
        have SX := Lib.hid (H3.out.setCount (n + p) ((n : Int) + (p : Int)) (by omega))
        have HTX := Lib.hid (HT.out.only OX.out HB.out)
        have HTK := Lib.hid (show (r.data.toList.take p).length = p by
          have e2 : r.data.toList.length = r.size := by simp
          rw [List.length_take, e2]
          omega)
        have HU2 := Lib.hid (show (u ++ r.data.toList.take p) ++ (r.extract p r.size).data.toList = t.data.toList by
          have hx : (r.extract p r.size).data.toList = r.data.toList.drop p := by
            simp [ByteArray.data_extract, Array.toList_extract]
            try (rw [List.take_of_length_le]; simp)
          rw [hx, List.append_assoc, List.take_append_drop, HU.out])
        have HMV := Lib.hid (show m = v.length % 64 by rw [HM.out, HNL.out])
        have HB2 := Lib.hid (show b.take (v.length % 64) = v.drop (64 * (v.length / 64)) by rw [← HNL.out, ← HM.out]; exact H2.out)
        have HVT := Lib.hid (show l ++ (u ++ r.data.toList.take p) = v ++ r.data.toList.take p by rw [← List.append_assoc, ← HV.out])
        have HMS := Lib.hid (show (r.extract p r.size).size < r.size by simp [ByteArray.size_extract]; omega)
        by_cases hfull : m + p = 64
        · have ht : (((n : Int) + (p : Int)) % 64 == 0) = true := by rw [beq_iff_eq]; omega
          go_wp2_with fail
          refine (mixC B _ _ _ _ SX.out HTX.out).mono ?_
          rintro e' w5 ⟨rfl, h5, o5⟩
          have H5 := Lib.hid h5
          have O5 := Lib.hid o5
          clear h5 o5
          go_wp2_with fail
          go_roundw
          case rel => exact ⟨u ++ r.data.toList.take p, r.extract p r.size, rfl, HU2.out, by
            rw [HVT.out]
            have h := H5.out
            rw [HMV.out] at h
            exact SL.full h (by rw [HTK.out, HNL.out]) H1.out.bl HB2.out (by rw [HTK.out, ← HMV.out]; exact hfull), OX.out.trans O5.out⟩
          case measure => exact HMS.out
        · have ht : (((n : Int) + (p : Int)) % 64 == 0) = false := by rw [beq_eq_false_iff_ne]; omega
          go_wp2_with fail
          go_roundw
          case rel => exact ⟨u ++ r.data.toList.take p, r.extract p r.size, rfl, HU2.out, by
            rw [HVT.out]
            have h := SX.out
            rw [HMV.out] at h
            exact SL.part h (by rw [HTK.out, HNL.out]) H1.out.bl HB2.out (by rw [HTK.out, ← HMV.out]; omega), OX.out⟩
          case measure => exact HMS.out
    · go_wp2_with fail
      refine bodyPost_end (results_none rfl _ _ _) rfl ⟨rfl, ?_, HON.out⟩
      have e2 : r.data.toList = [] := by
        apply List.eq_nil_of_length_eq_zero
        have : r.data.toList.length = r.size := by simp
        omega
      have e1 := HU.out
      rw [e2, List.append_nil] at e1
      rw [← e1]
      exact HSL.out
end Go.Proofs.YtiflieaemgamkaaDoor
