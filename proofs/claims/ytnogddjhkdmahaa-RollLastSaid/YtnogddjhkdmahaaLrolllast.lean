/- RollLast: what was fed ahead of the last eight bytes plays no part. No condition. -/
import Derived.Test.YtnogddjhkdmahaaRows
import Derived.Test.YtnogddjhkdmahaaKc
import Derived.Deep.DeepCutAuto
namespace Go.Proofs.Ytnogddjhkdmahaa.LRollLast
open Go.RowKit Rm

/-- a row that holds these bytes -/
def RowB (w : World) (b : Nat) (Y : ByteArray) : Prop := ∀ j (_ : j < Y.size), w.cell? ⟨b, j, none⟩ = some (.int .u8 (Y[j].toNat : Int))
theorem RowB.on {w w' : World} {b B : Nat} {Y : ByteArray} (h : RowB w b Y) (k : OnB B w w') (hne : b ≠ B) : RowB w' b Y := fun j hj => by
  have hl := World.block_lt_of_cell? w _ (h j hj)
  have hb := k.block b hl (fun e => hne (by first | exact Option.some.inj e | exact (Option.some.inj e).symm))
  rw [← h j hj]
  unfold World.cell?
  first | rw [hb] | simp only [hb]
theorem conv_rowK (w : World) (Y : ByteArray) : ∃ cap W, (convert 9 33 (.string Y)).run Try.prog w = .ok (.slice (some ⟨w.heap.size, 0, none⟩) Y.size cap) W ∧
    RowB W w.heap.size Y ∧ Below w.heap.size w W ∧ w.heap.size < W.heap.size := by
  refine ⟨_, _, Lib.run_convert_string_bytes w 9 33 5 Y Try.underlying9 Try.underlying33 Try.underlying5, ?_, ?_, ?_⟩
  · intro j hj
    rw [Lib.bytesWorld_cell w 5 Y j hj]
    have e : Y.data.toList.getD j 0 = Y[j] := by
      rw [List.getD_eq_getElem?_getD, List.getElem?_eq_getElem (by simpa using hj)]
      rfl
    first | rw [e] | simp [List.getD, hj]
  · exact ⟨rfl, rfl, rfl, by rw [Lib.bytesWorld_size]; omega, fun k hk => Lib.bytesWorld_at_old w 5 Y k hk⟩
  · rw [Lib.bytesWorld_size]; omega
theorem gen_world {P : Program} {c : Code} {Q : Exit → Act → World → Prop} {a : Act} {W0 : World} (F : World → Prop) (h0 : F W0) (h : ∀ W, F W → Code.wp P c Q a W) : Code.wp P c Q a W0 := h _ h0
/-- both sums, ahead of the first byte -/
def Two (w : World) (W : World) : Prop := RC W w.heap.size [] ∧ RC W (w.heap.size + 1) [] ∧ Below w.heap.size w W ∧ w.heap.size + 1 < W.heap.size
theorem two_start (w : World) : Two w ((w.alloc (.cells (rcs (List.replicate 8 0) 0 0).toArray 26)).alloc (.cells (rcs (List.replicate 8 0) 0 0).toArray 26)) := by
  have h1 := RC.start w
  have h2 := RC.start (w.alloc (.cells (rcs (List.replicate 8 0) 0 0).toArray 26))
  rw [show (w.alloc (.cells (rcs (List.replicate 8 0) 0 0).toArray 26)).heap.size = w.heap.size + 1 by simp] at h2
  exact ⟨h1.later ((Below.refl _ _).alloc (Nat.le_refl _) _), h2, ((Below.refl _ _).alloc (Nat.le_refl _) _).alloc (by simp) _, by simp⟩
set_option maxRecDepth 100000 in
set_option maxHeartbeats 2000000 in
theorem walk_yes (a b s : ByteArray) (w : World) (h8 : s.size = 8) (ha : a.size ≤ 500) (hb : b.size ≤ 500) :
    Calls Try.prog 5 #[.string a, .string b, .string s] w fun e w' => e = .returned (.bool true) ∧ Below w.heap.size w w' := by
  have t1 : ((s.size : Int) != 8) = false := by simp [h8]
  have t2 : decide ((500 : Int) < (a.size : Int)) = false := decide_eq_false (by omega)
  have t3 : decide ((500 : Int) < (b.size : Int)) = false := decide_eq_false (by omega)
  have hl8 : s.data.toList.length = 8 := by rw [← h8]; simp
  have ea : (a ++ s).data.toList = a.data.toList ++ s.data.toList := by simp
  have eb : (b ++ s).data.toList = b.data.toList ++ s.data.toList := by simp
  have HA := Lib.hid (show rsum (a ++ s).data.toList = rsum s.data.toList by rw [ea, rsum_last _ _ hl8])
  have HB := Lib.hid (show rsum (b ++ s).data.toList = rsum s.data.toList by rw [eb, rsum_last _ _ hl8])
  have za : (a ++ s).size ≤ 508 := by rw [ByteArray.size_append]; omega
  have zb : (b ++ s).size ≤ 508 := by rw [ByteArray.size_append]; omega
  clear ea eb hl8
  have hai : (a.size : Int) ≤ 500 := by omega
  have hbi : (b.size : Int) ≤ 500 := by omega
  have hsi : (s.size : Int) ≤ 8 := by omega
  have H8 := Lib.hid h8
  clear h8
  obtain ⟨A1, hA1⟩ : ∃ A1, A1 = a ++ s := ⟨_, rfl⟩
  obtain ⟨B1, hB1⟩ : ∃ B1, B1 = b ++ s := ⟨_, rfl⟩
  rw [← hA1] at HA za
  rw [← hB1] at HB zb
  have hA2 : a ++ s = A1 := hA1.symm
  have hB2 : b ++ s = B1 := hB1.symm
  clear hA1 hB1
  go_enter Try.func5, Try.ntmps5
  go_upto_region 4 with (fail)
  refine gen_world (Two w) (two_start w) ?_
  rintro W0 ⟨q1, q2, q3, q4⟩
  obtain ⟨cap, W, hcv, hcell, hbW, hWs⟩ := conv_rowK W0 A1
  have H1 := Lib.hid (q1.later hbW)
  have H2 := Lib.hid (q2.later hbW)
  have H3 := Lib.hid (q3.trans (hbW.mono q3.size))
  have H4 := Lib.hid (show w.heap.size + 1 < W0.heap.size ∧ W0.heap.size < W.heap.size from ⟨q4, hWs⟩)
  have H5 := Lib.hid hcell
  clear q1 q2 q3 q4 hcell hbW hWs
  go_wp2_with fail
  go_loopw [32] (fun i wr => ∃ k : Nat, k ≤ A1.size ∧ i = .int .i64 (k : Int) ∧ RC wr w.heap.size (A1.data.toList.take k) ∧ OnB w.heap.size W wr) (fun i _ => A1.size - (intOf i).toNat)
  case atStart => exact ⟨0, Nat.zero_le _, rfl, H1.out, OnB.refl _ W⟩
  case round =>
    obtain ⟨k, hk, rfl, hr, ho⟩ := hrel
    have HR := Lib.hid hr
    have HO := Lib.hid ho
    clear hr ho
    by_cases hlt : k < A1.size
    · have HF := Lib.hid (feed_any w.heap.size (A1.data.toList.take k) A1[k] wr HR.out)
      have HT := Lib.hid (take_snocK A1 k hlt)
      have hcl := (H5.out.on HO.out (by have := H4.out; omega)) k hlt
      go_wp2_with fail
      refine HF.out.mono ?_
      rintro e w1 ⟨rfl, h1, h2⟩
      rw [← HT.out] at h1
      have E1 := Lib.hid h1
      have E2 := Lib.hid h2
      clear h1 h2 hcl HF
      go_wp2_with fail
      go_roundw
      case rel => exact ⟨k + 1, by omega, by go_num, E1.out, HO.out.trans E2.out⟩
      case measure => simp [intOf]; omega
    · obtain rfl : k = A1.size := by omega
      have hR1 := HR.out
      rw [List.take_of_length_le (by simp)] at hR1
      obtain ⟨cap2, W2, hcv2, hcell2, hbW2, hWs2⟩ := conv_rowK wr B1
      have hsW := HO.out.size
      have G1 := Lib.hid (hR1.later hbW2)
      have G2 := Lib.hid ((H2.out.kept (HO.out.block _ (H2.out.lt) (by simp))).later hbW2)
      have G3 := Lib.hid ((OnB.below H3.out HO.out (Nat.le_refl _) H3.out.size).trans (hbW2.mono (Nat.le_trans H3.out.size hsW)))
      have G4 := Lib.hid (show w.heap.size + 1 < wr.heap.size by have := H4.out; omega)
      have G5 := Lib.hid hcell2
      clear hR1 hcell2 hbW2 hWs2 HR HO hsW
      go_wp2_with fail
      go_loopw [44] (fun i wr => ∃ k : Nat, k ≤ B1.size ∧ i = .int .i64 (k : Int) ∧ RC wr (w.heap.size + 1) (B1.data.toList.take k) ∧ OnB (w.heap.size + 1) W2 wr) (fun i _ => B1.size - (intOf i).toNat)
      case atStart => exact ⟨0, Nat.zero_le _, rfl, G2.out, OnB.refl _ W2⟩
      case round =>
        obtain ⟨k, hk, rfl, hr, ho⟩ := hrel
        have HR := Lib.hid hr
        have HO := Lib.hid ho
        clear hr ho
        by_cases hlt : k < B1.size
        · have HF := Lib.hid (feed_any (w.heap.size + 1) (B1.data.toList.take k) B1[k] _ HR.out)
          have HT := Lib.hid (take_snocK B1 k hlt)
          have hcl := (G5.out.on HO.out (by have := G4.out; omega)) k hlt
          go_wp2_with fail
          refine HF.out.mono ?_
          rintro e w1 ⟨rfl, h1, h2⟩
          rw [← HT.out] at h1
          have E1 := Lib.hid h1
          have E2 := Lib.hid h2
          clear h1 h2 hcl HF
          go_wp2_with fail
          go_roundw
          case rel => exact ⟨k + 1, by omega, by go_num, E1.out, HO.out.trans E2.out⟩
          case measure => simp [intOf]; omega
        · obtain rfl : k = B1.size := by omega
          have hR1 := HR.out
          rw [List.take_of_length_le (by simp)] at hR1
          have K1 := Lib.hid (G1.out.kept (HO.out.block _ G1.out.lt (by simp)))
          have K2 := Lib.hid hR1
          have K3 := Lib.hid (OnB.below G3.out HO.out (by omega) G3.out.size)
          clear hR1 HR HO
          obtain ⟨n, hn⟩ : ∃ n, n = rsum s.data.toList := ⟨_, rfl⟩
          rw [← hn] at HA HB
          have C1 := rsumc_any _ _ _ K1.out
          have C2 := rsumc_any _ _ _ K2.out
          rw [HA.out] at C1
          rw [HB.out] at C2
          have C1H := Lib.hid C1
          have C2H := Lib.hid C2
          clear C1 C2 hn
          go_wp2_with fail
          refine C1H.out.mono ?_
          rintro e w8 ⟨rfl, rfl⟩
          go_wp2_with fail
          refine C2H.out.mono ?_
          rintro e w8 ⟨rfl, rfl⟩
          go_wp2_with fail
          refine (awake17 _).mono ?_
          rintro e w9 ⟨rfl, hb⟩
          have B9 := Lib.hid hb
          clear hb
          go_wp2_with fail
          go_ret
          exact ⟨rfl, K3.out.trans (B9.out.mono K3.out.size)⟩
set_option maxRecDepth 100000 in
set_option maxHeartbeats 1000000 in
theorem walk (a b s : ByteArray) (w : World) :
    Calls Try.prog 5 #[.string a, .string b, .string s] w fun e w' => e = .returned (.bool true) ∧ Below w.heap.size w w' := by
  by_cases h : s.size = 8 ∧ a.size ≤ 500 ∧ b.size ≤ 500
  · exact walk_yes a b s w h.1 h.2.1 h.2.2
  · by_cases h1 : s.size = 8
    · have t1 : ((s.size : Int) != 8) = false := by simp [h1]
      by_cases h2 : a.size ≤ 500
      · have t2 : decide ((500 : Int) < (a.size : Int)) = false := decide_eq_false (by omega)
        have t3 : decide ((500 : Int) < (b.size : Int)) = true := decide_eq_true (by omega)
        clear h h1 h2
        go_enter Try.func5, Try.ntmps5
        go_wp2_with fail
        refine (awake17 _).mono ?_
        rintro e w9 ⟨rfl, hb⟩
        have B9 := Lib.hid hb
        clear hb
        go_wp2_with fail
        go_ret
        exact ⟨rfl, B9.out⟩
      · have t2 : decide ((500 : Int) < (a.size : Int)) = true := decide_eq_true (by omega)
        clear h h1 h2
        go_enter Try.func5, Try.ntmps5
        go_wp2_with fail
        refine (awake17 _).mono ?_
        rintro e w9 ⟨rfl, hb⟩
        have B9 := Lib.hid hb
        clear hb
        go_wp2_with fail
        go_ret
        exact ⟨rfl, B9.out⟩
    · have t1 : ((s.size : Int) != 8) = true := by simp; omega
      clear h h1
      go_enter Try.func5, Try.ntmps5
      go_wp2_with fail
      refine (awake17 _).mono ?_
      rintro e w9 ⟨rfl, hb⟩
      have B9 := Lib.hid hb
      clear hb
      go_wp2_with fail
      go_ret
      exact ⟨rfl, B9.out⟩
end Go.Proofs.Ytnogddjhkdmahaa.LRollLast
