/- The contracts of the document's own Of and Hits of layer 17 over this translation, and the chapter's example. Conditions: texts of fewer than a million bytes. -/
import Derived.Test.YtnogddjhkdmahaaKb
import Derived.Deep.QuietTactic
import Derived.BigQuiet
namespace Go.Proofs.Ytnogddjhkdmahaa
open Go.RowKit Rm

theorem conv_oneK (w : World) (x : Int) (b : UInt8) (hx : x = (b.toNat : Int)) :
    (convert 33 9 (.slice (some ⟨w.heap.size, 0, none⟩) 1 1)).run Try.prog (w.alloc (.cells #[.int .u8 x] 5)) = .ok (.string ⟨#[b]⟩) (w.alloc (.cells #[.int .u8 x] 5)) := by
  subst hx
  refine run_convert_bytes_back _ 33 9 5 ⟨w.heap.size, 0, none⟩ 1 [b] Try.underlying33 Try.underlying5 Try.underlying9 ?_
  intro j hj
  have : j = 0 := by simpa using hj
  subst this
  rw [Addr.add_lit, Nat.zero_add, cell_of_row _ _ _ _ _ _ (heap_alloc_new w (.cells #[.int .u8 (b.toNat : Int)] 5))]
  rfl
set_option maxRecDepth 100000 in
set_option maxHeartbeats 1000000 in
theorem rof_any (level : Int) (s : ByteArray) (w : World) (hs : s.size < 1000000) :
    Calls Try.prog 15 #[.int .i64 level, .string s] w fun e w' => e = .returned (.int .u32 (rsum (ofL level s) : Int)) ∧ Below w.heap.size w w' := by
  have HL := Lib.hid (low_nat level)
  obtain ⟨c, hc⟩ : ∃ c, c = UInt8.ofNat (level % 256).toNat := ⟨_, rfl⟩
  rw [← hc] at HL
  have hw : IntKind.u8.wrap level = (c.toNat : Int) := by rw [HL.out]; simp [IntKind.wrap, IntKind.bits, IntKind.signed]
  have hw2 : level % 256 = (c.toNat : Int) := HL.out.symm
  have HC := Lib.hid (show (s ++ ⟨#[c]⟩ : ByteArray).data.toList = ofL level s by rw [hc]; simp [ofL])
  have HZ := Lib.hid (show (s ++ ⟨#[c]⟩ : ByteArray).size ≤ 1000000 by rw [ByteArray.size_append]; show s.size + 1 ≤ _; omega)
  have hcv := conv_oneK w (c.toNat : Int) c rfl
  have hsi : (s.size : Int) < 1000000 := by omega
  clear hc HL
  go_enter Try.func15, Try.ntmps15
  go_wp2_with fail
  refine (rsumd_any _ _ HZ.out).mono ?_
  rintro e w1 ⟨rfl, rfl⟩
  go_wp2_with fail
  go_ret
  refine ⟨?_, (Below.refl _ w).alloc (Nat.le_refl _) _⟩
  rw [← HC.out]
  rfl
theorem quo_bits (n : Nat) (hn : n < 4294967296) : IntKind.u32.wrap ((n : Int) / 65536) = (n : Int) / 65536 ∧ IntKind.u32.wrap ((n : Int) / 256) = (n : Int) / 256 := by
  have h : ∀ x : Int, 0 ≤ x → x < 4294967296 → IntKind.u32.wrap x = x := fun x h0 h1 => by
    have : IntKind.u32.wrap x = x % 4294967296 := by simp [IntKind.wrap, IntKind.bits, IntKind.signed]
    omega
  exact ⟨h _ (by omega) (by omega), h _ (by omega) (by omega)⟩
set_option maxRecDepth 100000 in
set_option maxHeartbeats 1000000 in
theorem rhits_any (level : Int) (s : ByteArray) (w : World) (hs : s.size < 1000000) :
    Calls Try.prog 17 #[.int .i64 level, .string s] w fun e w' => e = .returned (.bool (hitOf level s)) ∧ Below w.heap.size w w' := by
  have HO := Lib.hid (rof_any level s w hs)
  have hn := rsum_lt (ofL level s)
  obtain ⟨n, hnn⟩ : ∃ n, n = rsum (ofL level s) := ⟨_, rfl⟩
  rw [← hnn] at HO hn
  have HN := Lib.hid hnn
  clear hnn hs
  obtain ⟨g1, hm⟩ := hit_bits n hn
  obtain ⟨m, hmm⟩ : ∃ m, m = n ^^^ n / 65536 := ⟨_, rfl⟩
  rw [← hmm] at g1 hm
  obtain ⟨g2, hk⟩ := hit_bits2 m hm
  obtain ⟨k, hkk⟩ : ∃ k, k = m ^^^ m / 256 := ⟨_, rfl⟩
  rw [← hkk] at g2 hk
  have g3 : (k : Int) % 4 = ((k % 4 : Nat) : Int) := by omega
  have HE := Lib.hid (show hitOf level s = (k % 4 == 3) by unfold hitOf hit; rw [← HN.out]; simp only; rw [← hmm, ← hkk])
  clear hmm hkk HN
  obtain ⟨z, hz⟩ : ∃ z, z = k % 4 := ⟨_, rfl⟩
  rw [← hz] at HE g3
  clear hz
  go_enter Try.func17, Try.ntmps17
  go_wp2_with fail
  refine HO.out.mono ?_
  rintro e w1 ⟨rfl, hb⟩
  have HB := Lib.hid hb
  clear hb HO
  go_wp2_with fail
  go_ret
  refine ⟨?_, HB.out⟩
  rw [HE.out, ← hit_t]
  rfl
set_option maxRecDepth 100000 in
set_option maxHeartbeats 1000000 in
theorem awake17 (w : World) : Calls Try.prog 10 #[] w fun e w' => e = .returned (.bool true) ∧ Below w.heap.size w w' := by
  have hz : ((0 : UInt8).toNat : Int) = 0 := rfl
  have HF := fun (B : Nat) (l : List UInt8) (w : World) (H : RC w B l) => hz ▸ feed_any B l 0 w H
  have HF2 := Lib.hid HF
  have HS := Lib.hid (show ((rsum ([] ++ [(0 : UInt8)]) : Nat) : Int) = 2654435761 by decide)
  clear hz HF
  go_enter Try.func10, Try.ntmps10
  go_wp2_with fail
  refine (HF2.out _ [] _ (RC.start w)).mono ?_
  rintro e w1 ⟨rfl, h1, h2⟩
  have H1 := Lib.hid h1
  have H2 := Lib.hid h2
  clear h1 h2 HF2
  go_wp2_with fail
  have hq := rsumc_any _ _ w1 H1.out
  rw [HS.out] at hq
  refine hq.mono ?_
  rintro e w3 ⟨rfl, rfl⟩
  clear hq
  go_wp2_with fail
  go_ret
  exact ⟨rfl, OnB.below ((Below.refl _ w).alloc (Nat.le_refl _) _) H2.out (Nat.le_refl _) (by simp)⟩
end Go.Proofs.Ytnogddjhkdmahaa
