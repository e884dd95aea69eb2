/- The contracts of roll's Sum, each, Of and Hits, and of the document's Sum, Of and Hits, over this translation; the chapter's example. -/
import Derived.Test.YtnogddjhkdmahaaKa
import Derived.LoopTactic
import Derived.Laws.BitsAllLaws
import Derived.Lib.ConvBytes
import Derived.WalkSpells
import Derived.WalkLawsBesides
namespace Go.Proofs.Ytnogddjhkdmahaa
open Go.RowKit Rm

theorem rsumc_any (B : Nat) (l : List UInt8) (w : World) (H : RC w B l) :
    Calls Try.prog 12 #[.pointer (some ⟨B, 0, none⟩)] w fun e w' => e = .returned (.int .u32 (rsum l : Int)) ∧ w = w' := by
  have hs := H.sum
  clear H
  go_enter Try.func12, Try.ntmps12
  go_wp2_with fail
  go_ret
  exact ⟨rfl, rfl⟩
theorem take_snocK (s : ByteArray) (k : Nat) (h : k < s.size) : s.data.toList.take (k + 1) = s.data.toList.take k ++ [s[k]] := by
  rw [List.take_succ_eq_append_getElem (by simpa using h)]; rfl
set_option maxRecDepth 100000 in
set_option maxHeartbeats 1000000 in
theorem each_any (B : Nat) (l : List UInt8) (s : ByteArray) (w : World) (H : RC w B l) (hs : s.size ≤ maxLen) :
    Calls Try.prog 28 #[.string s, .func (.func 11) #[.pointer (some ⟨B, 0, none⟩)] #[]] w fun e w' => e = .returned (.tuple #[]) ∧ RC w' B (l ++ s.data.toList) ∧ OnB B w w' := by
  unfold maxLen at hs
  have HH := Lib.hid H
  clear H
  go_enter Try.func28, Try.ntmps28
  go_wp2_with fail
  go_loopw [7] (fun i wr => ∃ k : Nat, k ≤ s.size ∧ i = .int .i64 (k : Int) ∧ RC wr B (l ++ s.data.toList.take k) ∧ OnB B w wr) (fun i _ => s.size - (intOf i).toNat)
  case atStart => exact ⟨0, Nat.zero_le _, rfl, by rw [List.take_zero, List.append_nil]; exact HH.out, OnB.refl B w⟩
  case round =>
    obtain ⟨k, hk, rfl, hr, ho⟩ := hrel
    have HR := Lib.hid hr
    have HO := Lib.hid ho
    clear hr ho
    by_cases hlt : k < s.size
    · have HF := Lib.hid (feed_any B (l ++ s.data.toList.take k) s[k] wr HR.out)
      have HT := Lib.hid (take_snocK s k hlt)
      go_wp2_with fail
      refine HF.out.mono ?_
      rintro e w1 ⟨rfl, h1, h2⟩
      have H1 := Lib.hid h1
      have H2 := Lib.hid h2
      clear h1 h2
      go_wp2_with fail
      go_roundw
      case rel => exact ⟨k + 1, by omega, by go_num, by rw [HT.out, ← List.append_assoc]; exact H1.out, HO.out.trans H2.out⟩
      case measure => simp [intOf]; omega
    · go_wp2_with fail
      refine bodyPost_end (results_none rfl _ _ _) rfl ⟨rfl, ?_, HO.out⟩
      have := HR.out
      rwa [List.take_of_length_le (by simp; omega)] at this
/-- the sum behind a key and a level's lowest byte -/
def ofL (level : Int) (s : ByteArray) : List UInt8 := s.data.toList ++ [UInt8.ofNat (level % 256).toNat]
theorem low_nat (level : Int) : ((UInt8.ofNat (level % 256).toNat).toNat : Int) = level % 256 := by
  rw [UInt8.toNat_ofNat']
  have : (level % 256).toNat < 256 := by omega
  rw [Nat.mod_eq_of_lt (by simpa using this)]
  omega
set_option maxRecDepth 100000 in
set_option maxHeartbeats 1000000 in
theorem of_any (level : Int) (s : ByteArray) (w : World) (hs : s.size ≤ maxLen) :
    Calls Try.prog 14 #[.int .i64 level, .string s] w fun e w' => e = .returned (.int .u32 (rsum (ofL level s) : Int)) ∧ Below w.heap.size w w' := by
  have HS := Lib.hid hs
  clear hs
  have HL := Lib.hid (low_nat level)
  obtain ⟨c, hc⟩ : ∃ c, c = UInt8.ofNat (level % 256).toNat := ⟨_, rfl⟩
  rw [← hc] at HL
  have hw : IntKind.u8.wrap level = (c.toNat : Int) := by rw [HL.out]; simp [IntKind.wrap, IntKind.bits, IntKind.signed]
  have hw2 : level % 256 = (c.toNat : Int) := HL.out.symm
  have HC := Lib.hid hc
  clear hc HL
  go_enter Try.func14, Try.ntmps14
  go_wp2_with fail
  refine (each_any _ [] s _ (RC.start w) HS.out).mono ?_
  rintro e w1 ⟨rfl, h1, h2⟩
  have H1 := Lib.hid h1
  have H2 := Lib.hid h2
  clear h1 h2
  go_wp2_with fail
  refine (feed_any _ _ c w1 H1.out).mono ?_
  rintro e w2 ⟨rfl, h3, h4⟩
  have H3 := Lib.hid h3
  have H4 := Lib.hid h4
  clear h3 h4
  go_wp2_with fail
  refine (rsumc_any _ _ w2 H3.out).mono ?_
  rintro e w3 ⟨rfl, rfl⟩
  go_wp2_with fail
  go_ret
  refine ⟨?_, ?_⟩
  · show Ending.returned (.int .u32 (rsum (s.data.toList ++ [c]) : Int)) = _
    rw [HC.out]
    rfl
  · exact OnB.below (OnB.below ((Below.refl _ w).alloc (Nat.le_refl _) _) H2.out (Nat.le_refl _) (by simp)) H4.out (Nat.le_refl _) (by have := H2.out.size; simp at this; omega)
theorem hit_bits (n : Nat) (hn : n < 4294967296) : bits BinOp.xor IntKind.u32 (n : Int) ((n : Int) / 65536) = ((n ^^^ n / 65536 : Nat) : Int) ∧ n ^^^ n / 65536 < 4294967296 :=
  ⟨u32_xor_nat n (n / 65536) hn (by omega), Nat.xor_lt_two_pow (n := 32) hn (by omega)⟩
theorem hit_bits2 (n : Nat) (hn : n < 4294967296) : bits BinOp.xor IntKind.u32 (n : Int) ((n : Int) / 256) = ((n ^^^ n / 256 : Nat) : Int) ∧ n ^^^ n / 256 < 4294967296 :=
  ⟨u32_xor_nat n (n / 256) hn (by omega), Nat.xor_lt_two_pow (n := 32) hn (by omega)⟩
theorem hit_and (n : Nat) (hn : n < 4294967296) : bits BinOp.and IntKind.u32 (n : Int) 3 = ((n % 4 : Nat) : Int) := by
  have := u32_and_nat n 3 hn (by omega)
  rw [show ((3 : Nat) : Int) = 3 by rfl, Nat.and_two_pow_sub_one_eq_mod n 2] at this
  exact this
theorem hit_t (z : Nat) : ((z : Int) == 3) = (z == 3) := by
  rw [Bool.eq_iff_iff, beq_iff_eq, beq_iff_eq]
  omega
def hitOf (level : Int) (s : ByteArray) : Bool := hit (rsum (ofL level s))
set_option maxRecDepth 100000 in
set_option maxHeartbeats 1000000 in
theorem hits_any (level : Int) (s : ByteArray) (w : World) (hs : s.size ≤ maxLen) :
    Calls Try.prog 16 #[.int .i64 level, .string s] w fun e w' => e = .returned (.bool (hitOf level s)) ∧ Below w.heap.size w w' := by
  have HO := Lib.hid (of_any level s w hs)
  have hn := rsum_lt (ofL level s)
  obtain ⟨n, hnn⟩ : ∃ n, n = rsum (ofL level s) := ⟨_, rfl⟩
  rw [← hnn] at HO hn
  have HN := Lib.hid hnn
  clear hnn hs
  obtain ⟨g1, hm⟩ := hit_bits n hn
  obtain ⟨m, hmm⟩ : ∃ m, m = n ^^^ n / 65536 := ⟨_, rfl⟩
  rw [← hmm] at g1 hm
  obtain ⟨g2, hk⟩ := hit_bits2 m hm
  obtain ⟨k, hkk⟩ : ∃ k, k = m ^^^ m / 256 := ⟨_, rfl⟩
  rw [← hkk] at g2 hk
  have g3 := hit_and k hk
  have HE := Lib.hid (show hitOf level s = (k % 4 == 3) by unfold hitOf hit; rw [← HN.out]; simp only; rw [← hmm, ← hkk])
  clear hmm hkk HN
  obtain ⟨z, hz⟩ : ∃ z, z = k % 4 := ⟨_, rfl⟩
  rw [← hz] at HE g3
  clear hz
  go_enter Try.func16, Try.ntmps16
  go_wp2_with fail
  refine HO.out.mono ?_
  rintro e w1 ⟨rfl, hb⟩
  have HB := Lib.hid hb
  clear hb HO
  go_wp2_with fail
  go_ret
  refine ⟨?_, HB.out⟩
  rw [HE.out, ← hit_t]
  rfl
/-- the document's sum, as far as the round has come -/
def part (s : ByteArray) (k : Nat) : Nat := hsum (ones ((s.data.toList.take k).drop (s.size - 8)))
theorem part_no (s : ByteArray) (k : Nat) (h : k + 8 < s.size) : part s (k + 1) = part s k := by
  unfold part
  rw [List.drop_of_length_le (by simp; omega), List.drop_of_length_le (by simp; omega)]
theorem part_yes (s : ByteArray) (k : Nat) (hk : k < s.size) (h : s.size ≤ k + 8) : part s (k + 1) = stp (part s k) (s[k].toNat + 1) := by
  unfold part
  rw [take_snocK s k hk, List.drop_append_of_le_length (by simp; omega), ← snoc_sum]
  simp [ones]
theorem part_end (s : ByteArray) : part s s.size = rsum s.data.toList := by
  unfold part rsum
  rw [List.take_of_length_le (by simp)]
  simp
theorem part_zero (s : ByteArray) : part s 0 = 0 := by
  unfold part
  rw [List.take_zero, List.drop_nil]
  rfl
theorem part_lt (s : ByteArray) (k : Nat) : part s k < 4294967296 := hsum_lt _
theorem stp_is (S c p1 p2 : Nat) (h1 : (p1 : Int) = (S : Int) * 16777619 % 4294967296) (h2 : (p2 : Int) = ((c : Int) + 1) * 2654435761 % 4294967296) : ((p1 : Int) + (p2 : Int)) % 4294967296 = (stp S (c + 1) : Int) := by
  unfold stp
  rw [h1, h2]
  omega
set_option maxRecDepth 100000 in
set_option maxHeartbeats 1000000 in
theorem rsumd_any (s : ByteArray) (w : World) (hs : s.size ≤ 1000000) :
    Calls Try.prog 13 #[.string s] w fun e w' => e = .returned (.int .u32 (rsum s.data.toList : Int)) ∧ w = w' := by
  go_enter Try.func13, Try.ntmps13
  go_wp2_with fail
  go_loop [3, 4] (fun u i => ∃ k : Nat, k ≤ s.size ∧ i = .int .i64 (k : Int) ∧ u = .int .u32 (part s k : Int)) (fun _ i => s.size - (intOf i).toNat)
  case atStart => exact ⟨0, Nat.zero_le _, rfl, by rw [part_zero]; rfl⟩
  case round =>
    obtain ⟨k, hk, rfl, rfl⟩ := hrel
    by_cases hlt : k < s.size
    · have hS := part_lt s k
      obtain ⟨S, hSS⟩ : ∃ S, S = part s k := ⟨_, rfl⟩
      rw [← hSS] at hS ⊢
      by_cases hge : s.size ≤ k + 8
      · have hg1 : decide (s.size ≤ k + 8) = true := decide_eq_true hge
        have hg2 : decide ((s.size : Int) ≤ (k : Int) + 8) = true := decide_eq_true (by omega)
        have hc : s[k].toNat < 256 := s[k].toNat_lt
        have HY := Lib.hid (part_yes s k hlt hge)
        obtain ⟨c, hcc⟩ : ∃ c, c = s[k].toNat := ⟨_, rfl⟩
        rw [← hSS, ← hcc] at HY
        rw [← hcc] at hc
        have hcx : ((s[k]'hlt).toNat : Int) = (c : Int) := by rw [hcc]
        clear hSS hcc
        obtain ⟨p1, q1, E1, g1⟩ := mul_exk (S : Int) 16777619
        obtain ⟨p2, q2, E2, g2⟩ := mul_exk ((c : Int) + 1) 2654435761
        have h3 := stp_is S c p1 p2 E1.out E2.out
        rw [← HY.out] at h3
        have q3 := part_lt s (k + 1)
        obtain ⟨p3, hp3⟩ : ∃ p3, p3 = part s (k + 1) := ⟨_, rfl⟩
        rw [← hp3] at h3 q3
        have HP := Lib.hid hp3
        clear hp3 HY
        go_wp2_with fail
        go_round
        case rel => exact ⟨k + 1, by omega, by go_num, by rw [← HP.out]; first | rfl | rw [h3]⟩
        case measure => simp [intOf]; omega
      · have hg1 : decide (s.size ≤ k + 8) = false := decide_eq_false hge
        have hg2 : decide ((s.size : Int) ≤ (k : Int) + 8) = false := decide_eq_false (by omega)
        have HP := Lib.hid (part_no s k (by omega))
        have HS := Lib.hid hSS
        clear hSS
        go_wp2_with fail
        go_round
        case rel => exact ⟨k + 1, by omega, by go_num, by rw [HP.out, ← HS.out]⟩
        case measure => simp [intOf]; omega
    · obtain rfl : k = s.size := by omega
      have HP := Lib.hid (part_end s)
      go_wp2_with fail
      go_ret
      refine ⟨?_, rfl⟩
      rw [← HP.out]
      rfl
end Go.Proofs.Ytnogddjhkdmahaa
