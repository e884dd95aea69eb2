/- RollSums: the sum of any bytes, byte by byte, is the document's. No condition. -/
import Derived.Test.YtnogddjhkdmahaaRows
import Derived.Test.YtnogddjhkdmahaaKc
namespace Go.Proofs.Ytnogddjhkdmahaa.LRollSums
open Go.RowKit Rm

theorem pre_list (s : ByteArray) (k : Nat) : (s.extract 0 k).data.toList = s.data.toList.take k := by
  simp [ByteArray.data_extract, Array.toList_extract]
set_option maxRecDepth 100000 in
set_option maxHeartbeats 1000000 in
theorem walk (s : ByteArray) (w : World) :
    Calls Try.prog 3 #[.string s] w fun e w' => e = .returned (.bool true) ∧ Below w.heap.size w w' := by
  by_cases hb : s.size ≤ 1000
  · have hd : decide ((1000 : Int) < (s.size : Int)) = false := decide_eq_false (by omega)
    have HB := Lib.hid hb
    clear hb
    go_enter Try.func3, Try.ntmps3
    go_wp2_with fail
    go_loopw [11] (fun i wr => ∃ k : Nat, k ≤ s.size ∧ i = .int .i64 (k : Int) ∧ RC wr w.heap.size (s.data.toList.take k) ∧ Below w.heap.size w wr) (fun i _ => s.size - (intOf i).toNat)
    case atStart => exact ⟨0, Nat.zero_le _, rfl, RC.start w, (Below.refl _ w).alloc (Nat.le_refl _) _⟩
    case round =>
      obtain ⟨k, hk, rfl, hr, ho⟩ := hrel
      have HR := Lib.hid hr
      have HO := Lib.hid ho
      clear hr ho
      by_cases hlt : k < s.size
      · have HF := Lib.hid (feed_any w.heap.size (s.data.toList.take k) s[k] wr HR.out)
        have HT := Lib.hid (take_snocK s k hlt)
        have hk1 : (k : Int) + 1 ≤ (s.size : Int) := by omega
        have hk2 : ((k : Int) + 1).toNat = k + 1 := by omega
        have hsi : (s.size : Int) ≤ 1000 := by have := HB.out; omega
        go_wp2_with fail
        refine HF.out.mono ?_
        rintro e w1 ⟨rfl, h1, h2⟩
        rw [← HT.out] at h1
        obtain ⟨n, hn⟩ : ∃ n, n = rsum (s.data.toList.take (k + 1)) := ⟨_, rfl⟩
        have C1 := Lib.hid (show ∀ W : World, RC W w.heap.size (s.data.toList.take (k + 1)) → Calls Try.prog 12 #[.pointer (some ⟨w.heap.size, 0, none⟩)] W fun e w' => e = .returned (.int .u32 (n : Int)) ∧ W = w' from fun W H => by rw [hn]; exact rsumc_any w.heap.size (s.data.toList.take (k + 1)) W H)
        have C2 := Lib.hid (show ∀ W : World, Calls Try.prog 13 #[.string (s.extract 0 (k + 1))] W fun e w' => e = .returned (.int .u32 (n : Int)) ∧ W = w' from fun W => by
          have h := rsumd_any (s.extract 0 (k + 1)) W (by rw [ByteArray.size_extract]; have := HB.out; omega)
          rw [pre_list, ← hn] at h
          exact h)
        have H1 := Lib.hid h1
        have H2 := Lib.hid h2
        clear h1 h2 hn HF
        go_wp2_with fail
        go_quiet ((first | (go_at_call 12; exact Calls.quiet_of_same (Calls.mono (C1.out _ H1.out) fun _ _ ⟨h1, h2⟩ => ⟨h1, h2.symm⟩)) | (go_at_call 13; exact Calls.quiet_of_same (Calls.mono (C2.out _) fun _ _ ⟨h1, h2⟩ => ⟨h1, h2.symm⟩))))
        go_wp2_with fail
        go_roundw
        case rel => exact ⟨k + 1, by omega, by go_num, H1.out.kept rfl, (fun h => ⟨h.os, h.tape, h.output, h.size, h.block⟩) (OnB.below HO.out H2.out (Nat.le_refl _) HO.out.size)⟩
        case measure => simp [intOf]; omega
      · go_wp2_with fail
        refine (awake17 wr).mono ?_
        rintro e w5 ⟨rfl, hb⟩
        have B5 := Lib.hid hb
        clear hb
        go_wp2_with fail
        go_ret
        exact ⟨rfl, HO.out.trans (B5.out.mono HO.out.size)⟩
  · have hd : decide ((1000 : Int) < (s.size : Int)) = true := decide_eq_true (by omega)
    clear hb
    go_enter Try.func3, Try.ntmps3
    go_wp2_with fail
    refine (awake17 w).mono ?_
    rintro e w5 ⟨rfl, hb⟩
    have B5 := Lib.hid hb
    clear hb
    go_wp2_with fail
    go_ret
    exact ⟨rfl, B5.out⟩
end Go.Proofs.Ytnogddjhkdmahaa.LRollSums
