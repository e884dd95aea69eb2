/- Contracts of the document's own bits, On and Tail of layer 2 over this translation. Conditions: texts of at most a hundred thousand bytes, sums of 32 bits. -/
import Derived.Test.YtiflieaemgamkaaGreatDoorCt
namespace Go.Proofs.YtiflieaemgamkaaGreatDoor
open Go.RowKit Cm

def uv (n : Nat) : Value := .int .u32 (n : Int)
def bitl (l : List UInt8) : List Nat := l.flatMap fun c => bitsOf 8 c.toNat
theorem bitsOf_len : ∀ f c, (bitsOf f c).length = f
  | 0, _ => rfl
  | f + 1, c => by simp [bitsOf, bitsOf_len f]
theorem bitl_len : ∀ l : List UInt8, (bitl l).length = 8 * l.length
  | [] => rfl
  | c :: l => by
    have := bitl_len l
    unfold bitl at this ⊢
    rw [List.flatMap_cons, List.length_append, bitsOf_len, this]; simp; omega
theorem bitl_snoc (l : List UInt8) (c : UInt8) : bitl (l ++ [c]) = bitl l ++ bitsOf 8 c.toNat := by simp [bitl]
theorem bitsOf_split : ∀ (f g c : Nat), bitsOf (f + g) c = bitsOf f c ++ bitsOf g (c / 2 ^ f)
  | 0, g, c => by simp [bitsOf]
  | f + 1, g, c => by
    rw [show f + 1 + g = (f + g) + 1 by omega, bitsOf, bitsOf, bitsOf_split f g (c / 2), Nat.div_div_eq_div_mul, Nat.pow_succ, Nat.mul_comm 2]; rfl
theorem bitsOf_snoc (f c : Nat) : bitsOf (f + 1) c = bitsOf f c ++ [c / 2 ^ f % 2] := by rw [bitsOf_split]; rfl
theorem bitsOf_le : ∀ (f c : Nat), ∀ b ∈ bitsOf f c, b ≤ 1
  | 0, _, b, h => by simp [bitsOf] at h
  | f + 1, c, b, h => by
    simp only [bitsOf, List.mem_cons] at h
    rcases h with rfl | h
    · omega
    · exact bitsOf_le f _ b h
theorem bitl_le (l : List UInt8) : ∀ b ∈ bitl l, b ≤ 1 := by
  intro b h
  simp only [bitl, List.mem_flatMap] at h
  obtain ⟨c, _, h⟩ := h
  exact bitsOf_le _ _ b h
theorem bstep_lt (r b : Nat) (h : r < 4294967296) : bstep r b < 4294967296 := by
  unfold bstep; apply xor_lt _ _ (by omega); split <;> decide

set_option maxHeartbeats 800000 in
set_option maxRecDepth 100000 in
theorem bits_any (s : ByteArray) (w : World) (hs : s.size ≤ 100000) :
    Calls Tryz.prog 222 #[.string s] w fun e w' => ∃ v, e = .returned v ∧ w'.ownsRow w.heap.size 188 1 v (bitl s.data.toList).length ((bitl s.data.toList).map uv) ∧ Below w.heap.size w w' := by
  obtain ⟨i0, hi, hz0, hz1, hz2⟩ := info_parts info_u32
  go_enter Tryz.func222, Tryz.ntmps222
  go_wp2
  go_loopw [3, 4, 5, 6] (fun v i c j wr => ∃ (k : Nat), i = .int .i64 (k : Int) ∧ k ≤ s.size ∧ wr.ownsRow w.heap.size 188 1 v (bitl (s.data.toList.take k)).length ((bitl (s.data.toList.take k)).map uv) ∧ Below w.heap.size w wr) (fun _ i _ _ _ => s.size - (intOf i).toNat)
  case atStart => exact ⟨0, rfl, by omega, World.ownsRow_nil _ _ _ _, Below.refl _ _⟩
  case round =>
    obtain ⟨k, rfl, hk, hown, hb⟩ := hrel
    have hsz := hb.size
    by_cases hlt : k < s.size
    · have hb8 : (s[k].toNat : Int) ≤ 255 := by have := s[k].toNat_lt; omega
      have hsn : s.data.toList.take (k + 1) = s.data.toList.take k ++ [s[k]] := by
        rw [List.take_succ_eq_append_getElem (by simpa using hlt)]; rfl
      have hbl : (bitl (s.data.toList.take k)).length ≤ 8 * k := by rw [bitl_len, List.length_take]; omega
      have HSN := Lib.hid hsn
      clear hsn
      obtain ⟨wo, rfl⟩ : ∃ wo : World, wo = wr := ⟨_, rfl⟩
      go_wp2
      go_loopw [3, 5, 6] (fun v c j wr => ∃ (m : Nat), j = .int .i64 (m : Int) ∧ m ≤ 8 ∧ c = .int .u32 ((s[k].toNat / 2 ^ m : Nat) : Int) ∧ wr.ownsRow w.heap.size 188 1 v (bitl (s.data.toList.take k) ++ bitsOf m s[k].toNat).length ((bitl (s.data.toList.take k) ++ bitsOf m s[k].toNat).map uv) ∧ Below w.heap.size w wr) (fun _ _ j _ => 8 - (intOf j).toNat)
      case atStart => exact ⟨0, rfl, by omega, by simp, by simpa [bitsOf] using hown, hb⟩
      case round =>
        obtain ⟨m, rfl, hm, rfl, hown2, hb2⟩ := hrel
        have hsz2 := hb2.size
        have hll : (bitl (s.data.toList.take k) ++ bitsOf m s[k].toNat).length ≤ 8 * k + 8 := by rw [List.length_append, bitsOf_len]; omega
        by_cases hm8 : m < 8
        · have hsn2 := bitsOf_snoc m s[k].toNat
          have hdv : s[k].toNat / 2 ^ (m + 1) = s[k].toNat / 2 ^ m / 2 := by rw [Nat.pow_succ, Nat.div_div_eq_div_mul]
          have HSN2 := Lib.hid hsn2
          have HDV := Lib.hid hdv
          have hcl : s[k].toNat / 2 ^ m ≤ 255 := Nat.le_trans (Nat.div_le_self _ _) (by omega)
          clear hsn2 hdv
          generalize hc : s[k].toNat / 2 ^ m = c at *
          have HCC := Lib.hid hc
          clear hc
          have hmm : ((c % 2 : Nat) : Int) = (c : Int) % 2 := by omega
          have HM := Lib.hid hmm
          clear hmm
          clear hown
          go_wp2_with (at_builtin; refine wpList_append_own _ rfl _ _ 225 rfl w.heap.size 188 i0 (.int .u32 0) 1 4 Tryz.underlying225 hi hz0 hz1 hz2 rfl (by decide) _ _ _ rfl (hown2.alloc _) ⟨wr.heap.size, 0, none⟩ 1 1 [.int .u32 ((c : Int) % 2)] rfl rfl ?c1 ?c2 ?c3 ?c4 ?c5 ?_)
          case c1 => exact cell_one_new _ _ _
          case c2 => intro u hu; simp at hu; subst hu; rfl
          case c3 => unfold maxLen; omega
          case c4 => omega
          case c5 => simp; omega
          intro v' w1 hown1 hgrow _
          have hb1 : Below w.heap.size w w1 := (hb2.alloc (by omega) _).grown hgrow (by simp; omega) (fun j hj => (hown2.lt j hj).1)
          have ho : w1.ownsRow w.heap.size 188 1 v' (bitl (s.data.toList.take k) ++ bitsOf (m + 1) s[k].toNat).length ((bitl (s.data.toList.take k) ++ bitsOf (m + 1) s[k].toNat).map uv) := by
            rw [HSN2.out]
            simpa [uv, HM.out, Nat.add_assoc] using hown1
          clear hown2 hown1 hgrow hb2 hsz2
          go_wp2
          go_roundw
          case rel => exact ⟨m + 1, by go_num, by omega, by rw [HDV.out]; first | rfl | go_num, ho, hb1⟩
          case measure => simp [intOf]; omega
        · obtain rfl : m = 8 := by omega
          rw [← bitl_snoc, ← HSN.out] at hown2
          have ho := hown2
          clear hown2 hown
          go_wp2
          go_roundw
          case rel => exact ⟨k + 1, by go_num, by omega, ho, hb2⟩
          case measure => simp [intOf]; omega
    · have hfin : s.data.toList.take k = s.data.toList := List.take_of_length_le (by simp; omega)
      rw [hfin] at hown
      clear hfin
      go_wp2
      go_ret
      exact ⟨_, rfl, hown, hb⟩

theorem foldl_take (l : List Nat) (r k : Nat) (h : k < l.length) : (l.take (k + 1)).foldl bstep r = bstep ((l.take k).foldl bstep r) l[k] := by
  rw [List.take_succ_eq_append_getElem h, List.foldl_append]; rfl
theorem foldl_lt : ∀ (l : List Nat) (r : Nat), r < 4294967296 → l.foldl bstep r < 4294967296
  | [], _, h => h
  | b :: l, _, h => foldl_lt l _ (bstep_lt _ b h)

set_option maxHeartbeats 800000 in
set_option maxRecDepth 100000 in
theorem refOn_any (sum : Nat) (s : ByteArray) (w : World) (hsum : sum < 4294967296) (hs : s.size ≤ 100000) :
    Calls Tryz.prog 194 #[.int .u32 sum, .string s] w fun e w' => e = .returned (.int .u32 (on sum s.data.toList)) ∧ Below w.heap.size w w' := by
  have hsi : (sum : Int) ≤ 4294967295 := by omega
  have HS := Lib.hid hsum
  clear hsum
  go_enter Tryz.func194, Tryz.ntmps194
  go_wp2_with fail
  refine (bits_any s w hs).mono ?_
  rintro e w1 ⟨v, rfl, hown, hb⟩
  have hbl := bitl_len s.data.toList
  have hle := bitl_le s.data.toList
  have hrun := run_bits s.data.toList (4294967295 - sum)
  have HRUN : Hid ((bitl s.data.toList).foldl bstep (4294967295 - sum) = run (4294967295 - sum) s.data.toList) := hrun
  have HLE := Lib.hid hle
  have hbb : (bitl s.data.toList).length ≤ 800000 := by rw [hbl]; simp; omega
  clear hrun hle hbl
  have hfin : on sum s.data.toList = 4294967295 - (bitl s.data.toList).foldl bstep (4294967295 - sum) := by unfold on; rw [HRUN.out]
  have HF := Lib.hid hfin
  clear hfin HRUN
  generalize bitl s.data.toList = L at *
  rcases hown.2 with ⟨rfl, he⟩ | ⟨g, cap, cur, rfl, hg, hh, hnc, hcp, hcs, htake⟩
  · have : L = [] := List.length_eq_zero_iff.1 he
    subst this
    clear hown HLE he
    have hs2 : ((on sum s.data.toList : Nat) : Int) = sum := by rw [HF.out]; simp; have := HS.out; omega
    have HS2 := Lib.hid hs2
    clear hs2
    go_wp2
    refine wp_loop_rounds 1 ?_
    rw [rounds_succ]
    go_wp2
    go_ret
    exact ⟨ret_valC (by rw [HS2.out]; omega), hb⟩
  · have hcell : ∀ k, (h : k < L.length) → w1.cell? ⟨g, k, none⟩ = some (.int .u32 (L[k] : Int)) := fun k h => by
      rw [hown.cellAt k (by omega)]; simp [uv, h]
    have HC := Lib.hid hcell
    clear hcell hown htake hcs hh hcp
    go_wp2
    go_loop [5, 7, 8] (fun r i u => ∃ (k a : Nat), i = .int .i64 (k : Int) ∧ k ≤ L.length ∧ r = .int .u32 (a : Int) ∧ a = (L.take k).foldl bstep (4294967295 - sum)) (fun _ i _ => L.length - (intOf i).toNat)
    case atStart => exact ⟨0, 4294967295 - sum, rfl, by omega, by congr 1; omega, by rw [List.take_zero]; rfl⟩
    case round =>
      obtain ⟨k, a, rfl, hk, rfl, ha⟩ := hrel
      have ha32 : a < 4294967296 := by rw [ha]; exact foldl_lt _ _ (by have := HS.out; omega)
      have HA := Lib.hid ha
      clear ha
      by_cases hlt : k < L.length
      · have hc := HC.out k hlt
        have hb1 := HLE.out _ (List.getElem_mem hlt)
        have hst := foldl_take L (4294967295 - sum) k hlt
        rw [← HA.out] at hst
        by_cases hne : a % 2 ≠ L[k]
        · have ht : ((a : Int) % 2 != ((L[k] : Nat) : Int)) = true := by simp; omega
          obtain ⟨r2, hr2⟩ : ∃ r2, r2 = bstep a L[k] := ⟨_, rfl⟩
          have e2 : bits BinOp.xor IntKind.u32 ((a : Int) / 2) 3988292384 = (r2 : Int) := by
            have e : (a : Int) / 2 = ((a / 2 : Nat) : Int) := by omega
            rw [e, hr2]
            unfold bstep
            rw [if_pos hne]
            exact xor_is _ _ (by omega) (by decide)
          have HST : Hid (r2 = (L.take (k + 1)).foldl bstep (4294967295 - sum)) := by rw [hr2]; exact hst.symm
          have hne2 : ((a : Int) % 2 == ((L[k] : Nat) : Int)) = false := by simp; omega
          clear hst hr2 hne
          go_wp2
          go_round
          case rel => exact ⟨k + 1, r2, by go_num, by omega, rfl, HST.out⟩
          case measure => simp [intOf]; omega
        · have ht : ((a : Int) % 2 != ((L[k] : Nat) : Int)) = false := by simp; omega
          have hne2 : ((a : Int) % 2 == ((L[k] : Nat) : Int)) = true := by simp; omega
          have HST : Hid (a / 2 = (L.take (k + 1)).foldl bstep (4294967295 - sum)) := by
            show _ = _
            rw [hst]; unfold bstep; rw [if_neg hne, Nat.xor_zero]
          clear hst hne
          go_wp2
          go_round
          case rel => exact ⟨k + 1, a / 2, by go_num, by omega, by first | rfl | go_num, HST.out⟩
          case measure => simp [intOf]; omega
      · have hfin : L.take k = L := List.take_of_length_le (by omega)
        have hst : ((on sum s.data.toList : Nat) : Int) = 4294967295 - (a : Int) := by
          rw [HF.out, HA.out, hfin]
          rw [hfin] at HA
          have := HA.out
          omega
        have HST := Lib.hid hst
        clear hst hfin
        go_wp2
        go_ret
        exact ⟨ret_valC HST.out.symm, hb⟩

theorem conv_ownC {w : World} {B : Nat} {v : Value} {xs : List UInt8} (h : w.ownsRow B 5 1 v xs.length (xs.map fun c => Value.int .u8 (c.toNat : Int))) :
    (convert 154 9 v).run Tryz.prog w = .ok (.string ⟨xs.toArray⟩) w := by
  have h0 := h
  rcases h.2 with ⟨rfl, he⟩ | ⟨g, cap, cur, rfl, hg, hh, hnc, hcp, hcs, htake⟩
  · obtain rfl : xs = [] := List.length_eq_zero_iff.1 he
    exact run_convert_bytes_nil _ _ _ Tryz.underlying154 Tryz.underlying5 _ _ _ Tryz.underlying9
  · refine run_convert_bytes_back w 154 9 5 ⟨g, 0, none⟩ cap xs Tryz.underlying154 Tryz.underlying5 Tryz.underlying9 ?_
    intro j hj
    rw [Addr.add_lit, Nat.zero_add, h0.cellAt j (by omega)]
    simp [hj]
theorem own_oneC (w : World) (e : TypeId) (x : Value) : (w.alloc (.cells #[x] e)).ownsRow w.heap.size e 1 (.slice (some ⟨w.heap.size, 0, none⟩) 1 1) 1 [x] :=
  ⟨by simp, .inr ⟨w.heap.size, 1, #[x], rfl, Nat.le_refl _, heap_alloc_new _ _, by omega, by unfold maxLen; omega, rfl, rfl⟩⟩
theorem conv_oneC (w : World) (x : Int) (b : UInt8) (hx : x = (b.toNat : Int)) :
    (convert 154 9 (.slice (some ⟨w.heap.size, 0, none⟩) 1 1)).run Tryz.prog (w.alloc (.cells #[.int .u8 x] 5)) = .ok (.string ⟨#[b]⟩) (w.alloc (.cells #[.int .u8 x] 5)) := by
  subst hx
  exact conv_ownC (xs := [b]) (own_oneC w 5 (.int .u8 (b.toNat : Int)))
theorem tl_len (x : Nat) : (tl x).length = 4 := rfl
theorem tl_at (x k : Nat) (hx : x < 4294967296) (h : k < (tl x).length) : ((tl x)[k].toNat) = x / 256 ^ k % 256 := by
  have h4 : k < 4 := h
  have e3 : (256 : Nat) ^ 3 = 16777216 := by decide
  have e2 : (256 : Nat) ^ 2 = 65536 := by decide
  rcases (show k = 0 ∨ k = 1 ∨ k = 2 ∨ k = 3 by omega) with rfl | rfl | rfl | rfl
  · show (UInt8.ofNat (x % 256)).toNat = _
    rw [byte_nat _ (by omega), Nat.pow_zero, Nat.div_one]
  · show (UInt8.ofNat (x / 256 % 256)).toNat = _
    rw [byte_nat _ (by omega), Nat.pow_one]
  · show (UInt8.ofNat (x / 65536 % 256)).toNat = _
    rw [byte_nat _ (by omega), e2]
  · show (UInt8.ofNat (x / 16777216)).toNat = _
    rw [byte_nat _ (by omega), e3]; omega
theorem str_snocC (l : List UInt8) (b : UInt8) : (ByteArray.mk l.toArray ++ ByteArray.mk #[b]) = ByteArray.mk (l ++ [b]).toArray := ByteArray.mk_append_mk l [b]

set_option maxHeartbeats 800000 in
set_option maxRecDepth 100000 in
theorem refTail_any (x : Nat) (w : World) (hx : x < 4294967296) :
    Calls Tryz.prog 193 #[.int .u32 x] w fun e w' => e = .returned (.string ⟨(tl x).toArray⟩) ∧ Below w.heap.size w w' := by
  have HT := Lib.hid (tl_at x)
  have HX := Lib.hid hx
  have HL := Lib.hid (tl_len x)
  have hxi : (x : Int) ≤ 4294967295 := by omega
  clear hx
  go_enter Tryz.func193, Tryz.ntmps193
  go_wp2
  go_loopw [0, 3, 4] (fun y s i wr => ∃ (k a : Nat), i = .int .i64 (k : Int) ∧ k ≤ 4 ∧ y = .int .u32 (a : Int) ∧ a = x / 256 ^ k ∧ s = .string ⟨((tl x).take k).toArray⟩ ∧ Below w.heap.size w wr) (fun _ _ i _ => 4 - (intOf i).toNat)
  case atStart => exact ⟨0, x, rfl, by omega, rfl, by simp, rfl, Below.refl _ _⟩
  case round =>
    obtain ⟨k, a, rfl, hk, rfl, ha, rfl, hb⟩ := hrel
    have hsz := hb.size
    have ha32 : a < 4294967296 := by rw [ha]; exact Nat.lt_of_le_of_lt (Nat.div_le_self _ _) HX.out
    have HA := Lib.hid ha
    clear ha
    by_cases hlt : k < 4
    · have hkl : k < (tl x).length := by rw [HL.out]; exact hlt
      have hb8 := HT.out k HX.out hkl
      rw [← HA.out] at hb8
      have hcv := conv_oneC wr ((a : Int) % 256) (tl x)[k] (by rw [hb8]; omega)
      have happ := Lib.hid (str_snocC ((tl x).take k) (tl x)[k])
      have htk : (tl x).take (k + 1) = (tl x).take k ++ [(tl x)[k]] := List.take_succ_eq_append_getElem hkl
      have HTK := Lib.hid htk
      have hdv : a / 256 = x / 256 ^ (k + 1) := by rw [HA.out, Nat.pow_succ, Nat.div_div_eq_div_mul]
      have HDV := Lib.hid hdv
      have hll : ((tl x).take k).length ≤ 4 := by rw [List.length_take]; omega
      clear hb8 htk hdv
      go_wp2
      go_roundw
      case rel => exact ⟨k + 1, a / 256, by go_num, by omega, by first | rfl | go_num, HDV.out, by rw [HTK.out, ← happ.out], hb.alloc (by omega) _⟩
      case measure => simp [intOf]; omega
    · have hfin : (tl x).take k = tl x := List.take_of_length_le (by rw [HL.out]; omega)
      have HF := Lib.hid hfin
      clear hfin
      go_wp2
      go_ret
      exact ⟨by rw [HF.out]; rfl, hb⟩
end Go.Proofs.YtiflieaemgamkaaGreatDoor
