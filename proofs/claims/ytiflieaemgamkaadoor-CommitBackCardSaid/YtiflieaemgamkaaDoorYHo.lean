/- The contracts of the document's own turn and padded of layer 3 over this translation. Conditions: words of 32 bits; texts of at most a hundred thousand bytes. -/
import Derived.Test.YtiflieaemgamkaaDoorG4
import Derived.Test.YtiflieaemgamkaaDoorG3
namespace Go.Proofs.YtiflieaemgamkaaDoor
open Go.RowKit Hm

set_option maxRecDepth 100000 in
theorem rturn_any (x k : Nat) (w : World) (hx : x < 4294967296) (hk0 : 1 ≤ k) (hk1 : k ≤ 31) :
    Calls Tryd.prog 41 #[.int .u32 x, .int .u64 k] w fun e w' => e = .returned (.int .u32 (rotr x k : Int)) ∧ w = w' := by
  have ho := u32_or_nat (x / 2 ^ k) (x * 2 ^ (32 - k) % 4294967296) (div_lt x k hx) (Nat.mod_lt _ (by omega))
  rw [Nat.or_comm, Int.natCast_emod, Int.natCast_mul, Int.natCast_pow, Int.natCast_ediv, Int.natCast_pow] at ho
  have HO := Lib.hid ho
  have hk2 : (k : Int) ≤ 31 := by omega
  have hn : (32 - (k : Int)).toNat = 32 - k := by omega
  clear ho
  go_enter Tryd.func41, Tryd.ntmps41
  go_wp2
  go_ret
  refine ⟨?_, rfl⟩
  exact congrArg (fun z => Ending.returned (.int .u32 z)) HO.out
theorem rturn_ex (x k : Nat) (z : Int) (hz : z = k) (hx : x < 4294967296) (hk0 : 1 ≤ k) (hk1 : k ≤ 31) : ∃ c : Nat, c < 4294967296 ∧ Hid (c = rotr x k) ∧
    Hid (∀ W : World, Calls Tryd.prog 41 #[.int .u32 x, .int .u64 z] W fun e w' => e = .returned (.int .u32 (c : Int)) ∧ w' = W) :=
  ⟨_, rotr_lt x k hx, rfl, fun W => by subst hz; exact (rturn_any x k W hx hk0 hk1).mono fun _ _ ⟨h1, h2⟩ => ⟨h1, h2.symm⟩⟩
theorem endByte_p (n p : Nat) (hp : p ≤ 7) : (((n : Int) * 8) / 2 ^ (8 * p) % 256) = ((endByte n (7 - p)).toNat : Int) := by
  unfold endByte
  rw [show 7 - (7 - p) = p by omega]
  generalize 8 * p = e
  rw [UInt8.toNat_ofNat', Nat.mod_eq_of_lt (Nat.mod_lt _ (by decide)), Int.natCast_emod, Int.natCast_ediv, Int.natCast_pow, Int.natCast_mul]
  rfl
/-- the bytes behind which the length goes -/
def padL (l : List UInt8) (j : Nat) : List UInt8 := l ++ 128 :: List.replicate j 0
theorem padL_len (l : List UInt8) (j : Nat) : (padL l j).length = l.length + 1 + j := by simp [padL]; omega
theorem padL_snoc (l : List UInt8) (j : Nat) : padL l j ++ [0] = padL l (j + 1) := by
  unfold padL
  rw [List.append_assoc, List.cons_append, ← List.replicate_succ']
theorem padL_all (l : List UInt8) : padL l (63 - (l.length + 8) % 64) ++ (List.range 8).map (endByte l.length) = l ++ tailOf l.length := by
  unfold padL tailOf endByte
  simp
theorem ends_snoc (n m : Nat) : (List.range m).map (endByte n) ++ [endByte n m] = (List.range (m + 1)).map (endByte n) := by
  rw [List.range_succ, List.map_append]
  rfl
set_option maxRecDepth 100000 in
set_option maxHeartbeats 1000000 in
theorem padded_any (s : ByteArray) (w : World) (hs : s.size ≤ 100000) :
    Calls Tryd.prog 38 #[.string s] w fun e w' => (∃ P : ByteArray, e = .returned (.string P) ∧ P.data.toList = s.data.toList ++ tailOf s.size) ∧ Below w.heap.size w w' := by
  obtain ⟨l, hl⟩ : ∃ l, l = s.data.toList := ⟨_, rfl⟩
  have hll : l.length = s.size := by rw [hl]; simp
  have HLL := Lib.hid hll
  have HL := Lib.hid hl
  rw [← hl]
  clear hll hl
  obtain ⟨n, hn⟩ : ∃ n, n = s.size := ⟨_, rfl⟩
  have hn2 : (n : Int) ≤ 100000 := by omega
  rw [← hn] at HLL ⊢
  have hns : (s.size : Int) = (n : Int) := by omega
  obtain ⟨j0, hj0⟩ : ∃ j0, j0 = 63 - (n + 8) % 64 := ⟨_, rfl⟩
  have HJ0 := Lib.hid hj0
  have hj63 : j0 ≤ 63 := by omega
  have hjm : (n + 1 + j0) % 64 = 56 := by omega
  have HJM := Lib.hid hjm
  clear hj0 hjm hn
  have HP0 := Lib.hid (show (s ++ ⟨#[128]⟩).data.toList = padL l 0 by rw [HL.out]; simp [padL])
  go_enter Tryd.func38, Tryd.ntmps38
  go_wp2_with fail
  go_loopw [3] (fun v wr => ∃ (j : Nat) (S : ByteArray), v = .string S ∧ j ≤ j0 ∧ S.data.toList = padL l j ∧ S.size = n + 1 + j ∧ Below w.heap.size w wr) (fun v _ => match v with | .string S => n + 1 + j0 - S.size | _ => 0)
  case atStart => exact ⟨0, _, rfl, Nat.zero_le _, HP0.out, by
    have h := congrArg List.length HP0.out
    rw [padL_len, HLL.out] at h
    have h2 : (s ++ ⟨#[128]⟩).data.toList.length = (s ++ ⟨#[128]⟩).size := by rw [Array.length_toList]; rfl
    omega, Below.refl _ _⟩
  case round =>
    obtain ⟨j, S, rfl, hj, hS, hsz, hb⟩ := hrel
    have HS := Lib.hid hS
    have HSZ := Lib.hid hsz
    have HB := Lib.hid hb
    have hsi : (S.size : Int) ≤ 200000 := by omega
    clear hS hb
    by_cases hlt : j < j0
    · have hmod : ((S.size : Int) % 64 == 56) = false := by rw [beq_eq_false_iff_ne]; have := HJM.out; omega
      have hmod2 : ((S.size : Int) % 64 != 56) = true := by rw [bne, hmod]; rfl
      have HS2 := Lib.hid (show (S ++ ⟨#[0]⟩).data.toList = padL l (j + 1) by rw [← padL_snoc, ← HS.out]; simp)
      have HZ2 := Lib.hid (show (S ++ ⟨#[0]⟩ : ByteArray).size = n + 1 + (j + 1) by rw [ByteArray.size_append, HSZ.out]; rfl)
      clear hsz
      go_wp2_with fail
      go_roundw
      case rel => exact ⟨j + 1, _, rfl, by omega, HS2.out, HZ2.out, HB.out⟩
      case measure => show n + 1 + j0 - (S ++ ⟨#[0]⟩ : ByteArray).size < n + 1 + j0 - S.size; rw [HZ2.out, HSZ.out]; omega
    · obtain rfl : j = j0 := by omega
      have hmod : ((S.size : Int) % 64 == 56) = true := by rw [beq_iff_eq]; have := HJM.out; omega
      have hmod2 : ((S.size : Int) % 64 != 56) = false := by rw [bne, hmod]; rfl
      clear hsz hlt
      go_wp2_with fail
      go_loopw [3, 5] (fun v i wr => ∃ (c m : Nat) (Z : ByteArray), c + m = 8 ∧ i = .int .i64 ((c : Int) - 1) ∧ v = .string Z ∧ Z.data.toList = padL l j ++ (List.range m).map (endByte n) ∧ Z.size ≤ 200100 ∧ Below w.heap.size w wr) (fun _ i _ => (intOf i + 1).toNat)
      case atStart => exact ⟨8, 0, S, rfl, rfl, rfl, by rw [HS.out]; simp, by omega, HB.out⟩
      case round =>
        obtain ⟨c, m, Z, hcm, rfl, rfl, hZ, hzs, hb⟩ := hrel
        have HZ := Lib.hid hZ
        have HB := Lib.hid hb
        have hzi : (Z.size : Int) ≤ 200100 := by omega
        clear hZ hb
        cases c with
        | zero =>
          obtain rfl : m = 8 := by omega
          have HF := Lib.hid (show Z.data.toList = l ++ tailOf n by rw [HZ.out, ← HLL.out, ← padL_all, HLL.out, ← HJ0.out])
          go_wp2_with fail
          go_ret
          exact ⟨⟨Z, rfl, HF.out⟩, HB.out⟩
        | succ p =>
          have hi : (((p + 1 : Nat) : Int) - 1) = (p : Int) := by omega
          rw [hi]
          have hp7 : (p : Int) ≤ 7 := by omega
          have hp0 : 0 ≤ (p : Int) := by omega
          obtain ⟨q, hq⟩ : ∃ q, q = endByte n (7 - p) := ⟨_, rfl⟩
          have hv := endByte_p n p (by omega)
          rw [← hq] at hv
          have HQ := Lib.hid hv
          have hcv := conv_oneB wr ((n : Int) * 8 / 2 ^ (8 * p) % 256) q hv
          have HZ2 := Lib.hid (show (Z ++ ⟨#[q]⟩).data.toList = padL l j ++ (List.range (m + 1)).map (endByte n) by
            rw [← ends_snoc, show m = 7 - p by omega, ← hq, ← List.append_assoc, show 7 - p = m by omega, ← HZ.out]
            simp)
          have hzz : (Z ++ ⟨#[q]⟩ : ByteArray).size = Z.size + 1 := by rw [ByteArray.size_append]; rfl
          have HZZ := Lib.hid hzz
          clear hv hq hzz
          go_wp2_with fail
          have HZS := Lib.hid (show (Z ++ ⟨#[q]⟩ : ByteArray).size ≤ 200100 by
            have h := congrArg List.length HZ2.out
            rw [List.length_append, padL_len, HLL.out, List.length_map, List.length_range] at h
            have h2 : (Z ++ ⟨#[q]⟩ : ByteArray).data.toList.length = (Z ++ ⟨#[q]⟩ : ByteArray).size := by rw [Array.length_toList]; rfl
            omega)
          go_roundw
          case rel => exact ⟨p, m + 1, _, by omega, rfl, rfl, HZ2.out, HZS.out, HB.out.alloc HB.out.size _⟩
          case measure => simp [intOf]
end Go.Proofs.YtiflieaemgamkaaDoor
