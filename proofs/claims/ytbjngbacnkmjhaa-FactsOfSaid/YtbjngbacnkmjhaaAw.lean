/- The contract of the document's Put of a value over this translation. Condition: texts of at most a million bytes. -/
import Derived.Test.YtbjngbacnkmjhaaWe
import Derived.Lib.SmallJoins
namespace Go.Proofs.Ytbjngbacnkmjhaa
open Go.RowKit Vi Hm

theorem conv_twoW (w : World) (b c : UInt8) :
    (convert 137 9 (.slice (some ⟨w.heap.size, 0, none⟩) 2 2)).run Try.prog (w.alloc (.cells #[.int .u8 (b.toNat : Int), .int .u8 (c.toNat : Int)] 5)) = .ok (.string ⟨#[b, c]⟩) (w.alloc (.cells #[.int .u8 (b.toNat : Int), .int .u8 (c.toNat : Int)] 5)) := by
  refine run_convert_bytes_back _ 137 9 5 ⟨w.heap.size, 0, none⟩ 2 [b, c] Try.underlying137 Try.underlying5 Try.underlying9 ?_
  intro j hj
  have hj2 : j < 2 := by simpa using hj
  rw [Addr.add_lit, Nat.zero_add, cell_of_row _ _ _ _ _ _ (heap_alloc_new w (.cells #[.int .u8 (b.toNat : Int), .int .u8 (c.toNat : Int)] 5))]
  rcases (show j = 0 ∨ j = 1 by omega) with rfl | rfl <;> rfl
set_option maxRecDepth 100000 in
set_option maxHeartbeats 2000000 in
theorem rputV_any (k n : Int) (t : ByteArray) (w : World) (h0 : -9223372036854775808 ≤ n) (h1 : n ≤ 9223372036854775807) (ht : t.size ≤ 1000000) :
    Calls Try.prog 132 #[.agg #[.int .i64 k, .int .i64 n, .string t]] w fun e w' => e = .returned (.string (vput k n t)) ∧ Below w.heap.size w w' := by
  have HCK := Lib.hid (fun W : World => vis_any k n t W)
  cases hv : vok k n t with
  | false =>
    have HQ := Lib.hid (show (⟨#[]⟩ : ByteArray) = vput k n t by unfold vput; rw [hv]; simp)
    rw [hv] at HCK
    clear hv ht h0 h1
    go_enter Try.func132, Try.ntmps132
    go_wp2_with fail
    refine (HCK.out _).mono ?_
    rintro e w1 ⟨rfl, hb⟩
    have HB := Lib.hid (((Below.refl _ w).alloc (Nat.le_refl _) _).trans (hb.mono (by simp)))
    clear hb HCK
    go_wp2_with fail
    go_ret
    exact ⟨retS HQ.out, HB.out⟩
  | true =>
    by_cases k1 : k = 1
    · subst k1
      have HQ := Lib.hid (show (⟨#[1, UInt8.ofNat (n % 256).toNat]⟩ : ByteArray) = vput 1 n t by unfold vput vrest; rw [hv]; rfl)
      have HL := Lib.hid (low_natW n)
      generalize UInt8.ofNat (n % 256).toNat = c at HL HQ
      have hw : n % 256 = (c.toNat : Int) := HL.out.symm
      have hw2 : IntKind.u8.wrap n = (c.toNat : Int) := by rw [HL.out]; simp [IntKind.wrap, IntKind.bits, IntKind.signed]
      rw [hv] at HCK
      clear hv ht h0 h1 HL
      go_enter Try.func132, Try.ntmps132
      go_wp2_with fail
      refine (HCK.out _).mono ?_
      rintro e w1 ⟨rfl, hb⟩
      have c0 := hb.cell (p := ⟨w.heap.size, 0, none⟩) (by simp)
      have c1 := hb.cell (p := ⟨w.heap.size, 1, none⟩) (by simp)
      simp at c0 c1
      have HB := Lib.hid (((Below.refl _ w).alloc (Nat.le_refl _) _).trans (hb.mono (by simp)))
      have hcv := conv_twoW w1 1 c
      simp only [show ((1 : UInt8).toNat : Int) = 1 from rfl] at hcv
      clear hb HCK
      go_wp2_with fail
      go_ret
      exact ⟨retS HQ.out, HB.out.alloc HB.out.size _⟩
    · have q1 : (k == 1) = false := by rw [beq_eq_false_iff_ne]; exact k1
      by_cases k2 : k = 2
      · subst k2
        have HQ := Lib.hid (show (⟨#[2]⟩ ++ ⟨(put (zig n)).toArray⟩ : ByteArray) = vput 2 n t by unfold vput vrest; rw [hv]; rfl)
        have HZ := Lib.hid (fun W : World => refZig_any n W h0 h1)
        have HZ2 := zig_le n h0 h1
        have HF := Lib.hid (fun (W : World) => refPut_any (zig n) W HZ2)
        have hz := put_len (zig n)
        have hz2 : (⟨(put (zig n)).toArray⟩ : ByteArray).size ≤ 10 := by show (put (zig n)).toArray.size ≤ 10; rw [List.size_toArray]; exact hz
        generalize (⟨(put (zig n)).toArray⟩ : ByteArray) = R at HQ HF hz2
        have hzi : (R.size : Int) ≤ 10 := by omega
        rw [hv] at HCK
        clear hv ht h0 h1 k1 q1 hz hz2 HZ2
        go_enter Try.func132, Try.ntmps132
        go_wp2_with fail
        refine (HCK.out _).mono ?_
        rintro e w1 ⟨rfl, hb⟩
        have c0 := hb.cell (p := ⟨w.heap.size, 0, none⟩) (by simp)
        have c1 := hb.cell (p := ⟨w.heap.size, 1, none⟩) (by simp)
        simp at c0 c1
        have HB := Lib.hid (((Below.refl _ w).alloc (Nat.le_refl _) _).trans (hb.mono (by simp)))
        clear hb HCK
        go_wp2_with fail
        refine (HZ.out _).mono ?_
        rintro e w2 ⟨rfl, rfl⟩
        go_wp2_with fail
        refine (HF.out _).mono ?_
        rintro e w2 ⟨rfl, hb⟩
        have HB2 := Lib.hid (HB.out.trans (hb.mono HB.out.size))
        clear hb
        go_wp2_with fail
        go_ret
        exact ⟨retS HQ.out, HB2.out⟩
      · have q2 : (k == 2) = false := by rw [beq_eq_false_iff_ne]; exact k2
        have hk3 : k = 3 := by
          unfold vok at hv
          rw [if_neg k1, if_neg k2] at hv
          simp at hv
          exact hv.1.1
        have HQ := Lib.hid (show (⟨#[3]⟩ ++ (⟨(put t.size).toArray⟩ ++ t) : ByteArray) = vput k n t by unfold vput vrest; rw [hv, hk3]; rfl)
        have HF := Lib.hid (fun (W : World) => refPutText_any t W ht)
        have hz := vrest_size k n t ht
        have hz2 : (⟨(put t.size).toArray⟩ ++ t : ByteArray).size ≤ 1000010 := by
          unfold vrest at hz
          rw [if_neg k1, if_neg k2] at hz
          exact hz
        generalize (⟨(put t.size).toArray⟩ ++ t : ByteArray) = R at HQ HF hz2
        have hzi : (R.size : Int) ≤ 1000010 := by omega
        rw [hv] at HCK
        clear hv ht h0 h1 k1 k2 hz hz2 hk3
        go_enter Try.func132, Try.ntmps132
        go_wp2_with fail
        refine (HCK.out _).mono ?_
        rintro e w1 ⟨rfl, hb⟩
        have c0 := hb.cell (p := ⟨w.heap.size, 0, none⟩) (by simp)
        have c2 := hb.cell (p := ⟨w.heap.size, 2, none⟩) (by simp)
        simp at c0 c2
        have HB := Lib.hid (((Below.refl _ w).alloc (Nat.le_refl _) _).trans (hb.mono (by simp)))
        clear hb HCK
        go_wp2_with fail
        refine (HF.out _).mono ?_
        rintro e w2 ⟨rfl, hb⟩
        have HB2 := Lib.hid (HB.out.trans (hb.mono HB.out.size))
        clear hb
        go_wp2_with fail
        go_ret
        exact ⟨retS HQ.out, HB2.out⟩
end Go.Proofs.Ytbjngbacnkmjhaa
