/- Contracts of the document's own bits, On and Tail of layer 2 over this translation. Conditions: texts of at most a hundred thousand bytes, sums of 32 bits. -/
import Derived.Test.YtagenkofoacajaaGreatDoorCt
namespace Go.Proofs.YtagenkofoacajaaGreatDoor
open Go.RowKit Cm

def uv (n : Nat) : Value := .int .u32 (n : Int)
def bitl (l : List UInt8) : List Nat := l.flatMap fun c => bitsOf 8 c.toNat
theorem bitsOf_len : ∀ f c, (bitsOf f c).length = f
  | 0, _ => rfl
  | f + 1, c => by simp [bitsOf, bitsOf_len f]
theorem bitl_len : ∀ l : List UInt8, (bitl l).length = 8 * l.length
  | [] => rfl
  | c :: l => by
    have := bitl_len l
    unfold bitl at this ⊢
    rw [List.flatMap_cons, List.length_append, bitsOf_len, this]; simp; omega
theorem bitl_snoc (l : List UInt8) (c : UInt8) : bitl (l ++ [c]) = bitl l ++ bitsOf 8 c.toNat := by simp [bitl]
theorem bitsOf_split : ∀ (f g c : Nat), bitsOf (f + g) c = bitsOf f c ++ bitsOf g (c / 2 ^ f)
  | 0, g, c => by simp [bitsOf]
  | f + 1, g, c => by
    rw [show f + 1 + g = (f + g) + 1 by omega, bitsOf, bitsOf, bitsOf_split f g (c / 2), Nat.div_div_eq_div_mul, Nat.pow_succ, Nat.mul_comm 2]; rfl
theorem bitsOf_snoc (f c : Nat) : bitsOf (f + 1) c = bitsOf f c ++ [c / 2 ^ f % 2] := by rw [bitsOf_split]; rfl
theorem bitsOf_le : ∀ (f c : Nat), ∀ b ∈ bitsOf f c, b ≤ 1
  | 0, _, b, h => by simp [bitsOf] at h
  | f + 1, c, b, h => by
    simp only [bitsOf, List.mem_cons] at h
    rcases h with rfl | h
    · omega
    · exact bitsOf_le f _ b h
theorem bitl_le (l : List UInt8) : ∀ b ∈ bitl l, b ≤ 1 := by
  intro b h
  simp only [bitl, List.mem_flatMap] at h
  obtain ⟨c, _, h⟩ := h
  exact bitsOf_le _ _ b h
theorem bstep_lt (r b : Nat) (h : r < 4294967296) : bstep r b < 4294967296 := by
  unfold bstep; apply xor_lt _ _ (by omega); split <;> decide

theorem foldl_take (l : List Nat) (r k : Nat) (h : k < l.length) : (l.take (k + 1)).foldl bstep r = bstep ((l.take k).foldl bstep r) l[k] := by
  rw [List.take_succ_eq_append_getElem h, List.foldl_append]; rfl
theorem foldl_lt : ∀ (l : List Nat) (r : Nat), r < 4294967296 → l.foldl bstep r < 4294967296
  | [], _, h => h
  | b :: l, _, h => foldl_lt l _ (bstep_lt _ b h)

theorem conv_ownC {w : World} {B : Nat} {v : Value} {xs : List UInt8} (h : w.ownsRow B 5 1 v xs.length (xs.map fun c => Value.int .u8 (c.toNat : Int))) :
    (convert 81 9 v).run Tryz.prog w = .ok (.string ⟨xs.toArray⟩) w := by
  have h0 := h
  rcases h.2 with ⟨rfl, he⟩ | ⟨g, cap, cur, rfl, hg, hh, hnc, hcp, hcs, htake⟩
  · obtain rfl : xs = [] := List.length_eq_zero_iff.1 he
    exact run_convert_bytes_nil _ _ _ Tryz.underlying81 Tryz.underlying5 _ _ _ Tryz.underlying9
  · refine run_convert_bytes_back w 81 9 5 ⟨g, 0, none⟩ cap xs Tryz.underlying81 Tryz.underlying5 Tryz.underlying9 ?_
    intro j hj
    rw [Addr.add_lit, Nat.zero_add, h0.cellAt j (by omega)]
    simp [hj]
theorem own_oneC (w : World) (e : TypeId) (x : Value) : (w.alloc (.cells #[x] e)).ownsRow w.heap.size e 1 (.slice (some ⟨w.heap.size, 0, none⟩) 1 1) 1 [x] :=
  ⟨by simp, .inr ⟨w.heap.size, 1, #[x], rfl, Nat.le_refl _, heap_alloc_new _ _, by omega, by unfold maxLen; omega, rfl, rfl⟩⟩
theorem conv_oneC (w : World) (x : Int) (b : UInt8) (hx : x = (b.toNat : Int)) :
    (convert 81 9 (.slice (some ⟨w.heap.size, 0, none⟩) 1 1)).run Tryz.prog (w.alloc (.cells #[.int .u8 x] 5)) = .ok (.string ⟨#[b]⟩) (w.alloc (.cells #[.int .u8 x] 5)) := by
  subst hx
  exact conv_ownC (xs := [b]) (own_oneC w 5 (.int .u8 (b.toNat : Int)))
theorem tl_len (x : Nat) : (tl x).length = 4 := rfl
theorem tl_at (x k : Nat) (hx : x < 4294967296) (h : k < (tl x).length) : ((tl x)[k].toNat) = x / 256 ^ k % 256 := by
  have h4 : k < 4 := h
  have e3 : (256 : Nat) ^ 3 = 16777216 := by decide
  have e2 : (256 : Nat) ^ 2 = 65536 := by decide
  rcases (show k = 0 ∨ k = 1 ∨ k = 2 ∨ k = 3 by omega) with rfl | rfl | rfl | rfl
  · show (UInt8.ofNat (x % 256)).toNat = _
    rw [byte_nat _ (by omega), Nat.pow_zero, Nat.div_one]
  · show (UInt8.ofNat (x / 256 % 256)).toNat = _
    rw [byte_nat _ (by omega), Nat.pow_one]
  · show (UInt8.ofNat (x / 65536 % 256)).toNat = _
    rw [byte_nat _ (by omega), e2]
  · show (UInt8.ofNat (x / 16777216)).toNat = _
    rw [byte_nat _ (by omega), e3]; omega
theorem str_snocC (l : List UInt8) (b : UInt8) : (ByteArray.mk l.toArray ++ ByteArray.mk #[b]) = ByteArray.mk (l ++ [b]).toArray := ByteArray.mk_append_mk l [b]

end Go.Proofs.YtagenkofoacajaaGreatDoor
