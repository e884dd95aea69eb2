/- The contracts of the document's own Constants and Sum of layer 3 over this translation. Condition: texts of at most a hundred thousand bytes. -/
import Derived.Test.YtiflieaemgamkaaDoorYHq
import Derived.Test.YtiflieaemgamkaaDoorHy
import Derived.Test.YtiflieaemgamkaaDoorHx
import Derived.Test.YtiflieaemgamkaaDoorG3
import Derived.BigRegion
import Derived.RegionTactic
namespace Go.Proofs.YtiflieaemgamkaaDoor
open Go.RowKit Hm

theorem or_ex (a b : Nat) (ha : a < 4294967296) (hb : b < 4294967296) : ∃ c : Nat, c < 4294967296 ∧ Hid (c = a ||| b) ∧ bits .or .u32 (a : Int) (b : Int) = (c : Int) := ⟨_, or_lt a b ha hb, rfl, u32_or_nat a b ha hb⟩
theorem or_ch (e f g : Nat) (he : e < 4294967296) : (e &&& f) ||| ((4294967295 - e) &&& g) = ch e f g := by
  unfold ch
  rw [← xor_ones e he]
  apply Nat.eq_of_testBit_eq
  intro i
  simp only [Nat.testBit_or, Nat.testBit_and, Nat.testBit_xor]
  have hm : (4294967295 : Nat).testBit i = decide (i < 32) := Nat.testBit_two_pow_sub_one 32 i
  rw [hm]
  by_cases hi : i < 32
  · rw [decide_eq_true hi]
    cases e.testBit i <;> cases f.testBit i <;> cases g.testBit i <;> rfl
  · have h0 : e.testBit i = false := Nat.testBit_lt_two_pow (Nat.lt_of_lt_of_le he (by
      have : 2 ^ 32 ≤ 2 ^ i := Nat.pow_le_pow_right (by omega) (by omega)
      simpa using this))
    rw [decide_eq_false hi, h0]
    cases f.testBit i <;> cases g.testBit i <;> rfl
theorem or_maj (a b c : Nat) : ((a &&& b) ||| (a &&& c)) ||| (b &&& c) = maj a b c := by
  unfold maj
  apply Nat.eq_of_testBit_eq
  intro i
  simp only [Nat.testBit_or, Nat.testBit_and, Nat.testBit_xor]
  cases a.testBit i <;> cases b.testBit i <;> cases c.testBit i <;> rfl
theorem blocks_len (q : Nat) (h : List Nat) (b : List UInt8) (hl : h.length = 8) : (blocks q h b).length = 8 := by
  induction q generalizing h b with
  | zero => exact hl
  | succ q ih => exact ih _ _ (by unfold mix; rw [List.length_zipWith, hl]; rfl)
/-- the constants, in a block of their own -/
def ConstB (w : World) (g : Nat) : Prop := w.heap[g]? = some (.cells (consts.map u32v).toArray 69 (0, 0))
theorem ConstB.at {w : World} {g : Nat} (h : ConstB w g) (j : Nat) (hj : j < 64) : w.cell? ⟨g, j, none⟩ = some (.int .u32 (consts.getD j 0 : Int)) := by
  rw [cell_of_row _ _ _ _ _ _ h]
  have hl : consts.length = 64 := rfl
  simp [u32v, List.getD, hl, hj]
set_option maxRecDepth 100000 in
theorem constants_any (w : World) : Calls Tryd.prog 39 #[] w fun e w' => e = .returned (.slice (some ⟨w.heap.size, 0, none⟩) 64 64) ∧ ConstB w' w.heap.size ∧ Below w.heap.size w w' := by
  go_enter Tryd.func39, Tryd.ntmps39
  go_wp2
  go_ret
  exact ⟨rfl, heap_alloc_new w _, (Below.refl _ w).alloc (Nat.le_refl _) _⟩
/-- eight words, in a block of their own -/
structure Eight (w : World) (g : Nat) (s : St) : Prop where
  blk : w.heap[g]? = some (.cells #[.int .u32 (s.a : Int), .int .u32 (s.b : Int), .int .u32 (s.c : Int), .int .u32 (s.d : Int), .int .u32 (s.e : Int), .int .u32 (s.f : Int), .int .u32 (s.g : Int), .int .u32 (s.h : Int)] 69 (0, 0))
  ok : StOk s
theorem Eight.kept {w w' : World} {g : Nat} {s : St} (h : Eight w g s) (hb : Below w.heap.size w w') : Eight w' g s :=
  ⟨(hb.block g (by
    rcases Nat.lt_or_ge g w.heap.size with q | q
    · exact q
    · have := h.blk
      rw [Array.getElem?_eq_none q] at this
      cases this)).trans h.blk, h.ok⟩
theorem Eight.cells {w : World} {g : Nat} {s : St} (h : Eight w g s) : w.cell? ⟨g, 0, none⟩ = some (.int .u32 (s.a : Int)) ∧ w.cell? ⟨g, 1, none⟩ = some (.int .u32 (s.b : Int)) ∧ w.cell? ⟨g, 2, none⟩ = some (.int .u32 (s.c : Int)) ∧ w.cell? ⟨g, 3, none⟩ = some (.int .u32 (s.d : Int)) ∧
    w.cell? ⟨g, 4, none⟩ = some (.int .u32 (s.e : Int)) ∧ w.cell? ⟨g, 5, none⟩ = some (.int .u32 (s.f : Int)) ∧ w.cell? ⟨g, 6, none⟩ = some (.int .u32 (s.g : Int)) ∧ w.cell? ⟨g, 7, none⟩ = some (.int .u32 (s.h : Int)) := by
  refine ⟨?_, ?_, ?_, ?_, ?_, ?_, ?_, ?_⟩ <;> (rw [cell_of_row _ _ _ _ _ _ h.blk]; rfl)
theorem Eight.at {w : World} {g : Nat} {s : St} (h : Eight w g s) (m : Nat) (hm : m < 8) : ∃ x, s.list[m]'hm = x ∧ x < 4294967296 ∧ w.cell? ⟨g, m, none⟩ = some (.int .u32 (x : Int)) := by
  obtain ⟨c0, c1, c2, c3, c4, c5, c6, c7⟩ := h.cells
  obtain ⟨o0, o1, o2, o3, o4, o5, o6, o7⟩ := h.ok
  rcases (show m = 0 ∨ m = 1 ∨ m = 2 ∨ m = 3 ∨ m = 4 ∨ m = 5 ∨ m = 6 ∨ m = 7 by omega) with rfl | rfl | rfl | rfl | rfl | rfl | rfl | rfl
  · exact ⟨_, rfl, o0, c0⟩
  · exact ⟨_, rfl, o1, c1⟩
  · exact ⟨_, rfl, o2, c2⟩
  · exact ⟨_, rfl, o3, c3⟩
  · exact ⟨_, rfl, o4, c4⟩
  · exact ⟨_, rfl, o5, c5⟩
  · exact ⟨_, rfl, o6, c6⟩
  · exact ⟨_, rfl, o7, c7⟩
theorem of_list (s : St) : St.of s.list = s := rfl
theorem mix_list (s s2 : St) (b : List UInt8) (h : s2 = rounds (sched b) 64 s) : mix s.list b = [(s.a + s2.a) % 4294967296, (s.b + s2.b) % 4294967296, (s.c + s2.c) % 4294967296, (s.d + s2.d) % 4294967296, (s.e + s2.e) % 4294967296, (s.f + s2.f) % 4294967296, (s.g + s2.g) % 4294967296, (s.h + s2.h) % 4294967296] := by
  unfold mix
  rw [of_list, ← h]
  rfl
theorem run_cut (P : ByteArray) (a : Nat) (z z1 : Int) (hz : z = (a : Int)) (hz1 : z1 = (a : Int) + 64) (h : a + 64 ≤ P.size) (W : World) : (Instr.slice 9 (.string P) (some (.int .i64 z)) (some (.int .i64 z1)) none).run Tryd.prog W = .ok (.string (P.extract a (a + 64))) W := by
  subst hz
  subst hz1
  rw [run_slice_string _ _ _ _ _ _ _ Tryd.underlying9 (by omega) (by omega) (by omega)]
  have e1 : ((a : Int)).toNat = a := by omega
  have e2 : ((a : Int) + 64).toNat = a + 64 := by omega
  rw [e1, e2]
theorem cut_list (P : ByteArray) (a : Nat) : (P.extract a (a + 64)).data.toList = (P.data.toList.drop a).take 64 := by
  rw [ByteArray.data_extract, Array.toList_extract]
  simp [List.extract]
theorem conv_four (w : World) (x0 x1 x2 x3 : Int) (b0 b1 b2 b3 : UInt8) (h0 : x0 = (b0.toNat : Int)) (h1 : x1 = (b1.toNat : Int)) (h2 : x2 = (b2.toNat : Int)) (h3 : x3 = (b3.toNat : Int)) :
    (convert 89 9 (.slice (some ⟨w.heap.size, 0, none⟩) 4 4)).run Tryd.prog (w.alloc (.cells #[.int .u8 x0, .int .u8 x1, .int .u8 x2, .int .u8 x3] 5)) = .ok (.string ⟨#[b0, b1, b2, b3]⟩) (w.alloc (.cells #[.int .u8 x0, .int .u8 x1, .int .u8 x2, .int .u8 x3] 5)) := by
  subst h0 h1 h2 h3
  exact conv_ownB (xs := [b0, b1, b2, b3]) (B := w.heap.size) ⟨rfl, .inr ⟨w.heap.size, 4, #[u8v b0, u8v b1, u8v b2, u8v b3], rfl, Nat.le_refl _, heap_alloc_new _ _, by simp, by unfold maxLen; omega, rfl, rfl⟩⟩
theorem bytes_snoc (H : List Nat) (m : Nat) (hm : m < H.length) : bytesOf (H.take (m + 1)) = bytesOf (H.take m) ++ [UInt8.ofNat (H[m] / 2 ^ 24 % 256), UInt8.ofNat (H[m] / 2 ^ 16 % 256), UInt8.ofNat (H[m] / 2 ^ 8 % 256), UInt8.ofNat (H[m] % 256)] := by
  unfold bytesOf
  rw [List.take_succ_eq_append_getElem hm, List.flatMap_append, List.flatMap_cons, List.flatMap_nil, List.append_nil]
theorem byte_of (x : Nat) : ((UInt8.ofNat (x % 256)).toNat : Int) = (x : Int) % 256 := by
  rw [UInt8.toNat_ofNat', Nat.mod_eq_of_lt (Nat.mod_lt _ (by decide))]
  omega
theorem str_four (S : ByteArray) (l : List UInt8) (a b c d : UInt8) (h : S.data.toList = l) : (S ++ ⟨#[a, b, c, d]⟩).data.toList = l ++ [a, b, c, d] := by
  subst h
  simp
end Go.Proofs.YtiflieaemgamkaaDoor
