/- A sum on its way as a block of memory: its cells, and what becomes of them. No condition. -/
import Derived.Test.YtiflieaemgamkaaDoorHr
import Derived.Lib.Hide
import Derived.Laws.Rows
import Derived.Laws.CopyOwn
import Derived.Below
namespace Go.Proofs.YtiflieaemgamkaaDoor
open Go.RowKit Hm

def u32v (x : Nat) : Value := .int .u32 (x : Int)
def u8v (c : UInt8) : Value := .int .u8 (c.toNat : Int)
/-- the cells of a sum: its words, its bytes, and how many there were -/
def hcs (h : List Nat) (b : List UInt8) (n : Nat) : List Value := .bool true :: (h.map u32v ++ (b.map u8v ++ [.int .i64 (n : Int)]))
/-- a sum on its way, in the block B -/
structure SH (w : World) (B : Nat) (h : List Nat) (b : List UInt8) (n : Nat) : Prop where
  hl : h.length = 8
  hlt : ∀ j, j < 8 → h.getD j 0 < 4294967296
  bl : b.length = 64
  blk : w.heap[B]? = some (.cells (hcs h b n).toArray 73 (0, 0))
theorem hcs_word (h : List Nat) (b : List UInt8) (n j : Nat) (hj : j < h.length) : (hcs h b n)[1 + j]? = some (.int .u32 (h.getD j 0 : Int)) := by
  unfold hcs
  rw [Nat.add_comm, List.getElem?_cons_succ, List.getElem?_append_left (by simpa using hj), List.getElem?_map, List.getD_eq_getElem?_getD, List.getElem?_eq_getElem hj]
  rfl
theorem hcs_byte (h : List Nat) (b : List UInt8) (n j : Nat) (hl : h.length = 8) (hj : j < b.length) : (hcs h b n)[9 + j]? = some (.int .u8 ((b.getD j 0).toNat : Int)) := by
  unfold hcs
  rw [show 9 + j = (8 + j) + 1 by omega, List.getElem?_cons_succ, List.getElem?_append_right (by simp [hl]), List.length_map, hl, show 8 + j - 8 = j by omega, List.getElem?_append_left (by simpa using hj), List.getElem?_map, List.getD_eq_getElem?_getD, List.getElem?_eq_getElem hj]
  rfl
theorem hcs_count (h : List Nat) (b : List UInt8) (n : Nat) (hl : h.length = 8) (hb : b.length = 64) : (hcs h b n)[73]? = some (.int .i64 (n : Int)) := by
  unfold hcs
  rw [show 73 = 72 + 1 by omega, List.getElem?_cons_succ, List.getElem?_append_right (by simp [hl]), List.getElem?_append_right (by simp [hl, hb])]
  simp [hl, hb]
theorem hcs_len (h : List Nat) (b : List UInt8) (n : Nat) (hl : h.length = 8) (hb : b.length = 64) : (hcs h b n).length = 74 := by simp [hcs, hl, hb]
theorem hcs_set (h : List Nat) (b : List UInt8) (n j x : Nat) (hj : j < h.length) : (hcs h b n).set (1 + j) (.int .u32 (x : Int)) = hcs (h.set j x) b n := by
  unfold hcs
  rw [Nat.add_comm, List.set_cons_succ, List.set_append_left _ _ (by simpa using hj), List.map_set]
  rfl
theorem hcs_cnt (h : List Nat) (b : List UInt8) (n m : Nat) (hl : h.length = 8) (hb : b.length = 64) : (hcs h b n).set 73 (.int .i64 (m : Int)) = hcs h b m := by
  unfold hcs
  rw [show 73 = 72 + 1 by omega, List.set_cons_succ, List.set_append_right _ _ (by simp [hl]), List.set_append_right _ _ (by simp [hl, hb])]
  simp [hl, hb]
theorem hcs_put (h : List Nat) (b c : List UInt8) (n k : Nat) (hl : h.length = 8) (hk : k + c.length ≤ b.length) : splice (hcs h b n) (9 + k) (c.map u8v) = hcs h (splice b k c) n := by
  unfold splice hcs
  rw [show 9 + k = (8 + k) + 1 by omega, List.take_succ_cons, show 8 + k + 1 + (c.map u8v).length = (8 + k + c.length) + 1 by simp; omega, List.drop_succ_cons]
  rw [List.take_append, List.drop_append, List.length_map, hl, show 8 + k - 8 = k by omega, show 8 + k + c.length - 8 = k + c.length by omega, List.take_of_length_le (l := h.map u32v) (by simp [hl]), List.drop_of_length_le (l := h.map u32v) (by simp [hl]; omega)]
  rw [List.take_append_of_le_length (by simp; omega), List.drop_append_of_le_length (by simp; omega)]
  simp [List.map_take, List.map_drop]
section
variable {w w' : World} {B : Nat} {h : List Nat} {b : List UInt8} {n : Nat}
theorem SH.lt (H : SH w B h b n) : B < w.heap.size := by
  rcases Nat.lt_or_ge B w.heap.size with g | g
  · exact g
  · have := H.blk
    rw [Array.getElem?_eq_none g] at this
    cases this
theorem SH.cell (H : SH w B h b n) (j : Nat) : w.cell? ⟨B, j, none⟩ = (hcs h b n)[j]? := by
  rw [cell_of_row _ _ _ _ _ _ H.blk]
  simp
theorem SH.free (H : SH w B h b n) (j : Nat) : w.frozen? ⟨B, j, none⟩ = false := frozen_of_row _ _ _ _ _ H.blk
theorem SH.made (H : SH w B h b n) : w.cell? ⟨B, 0, none⟩ = some (.bool true) := by rw [H.cell]; rfl
theorem SH.words (H : SH w B h b n) (j : Nat) (hj : j < 8) : w.cell? ⟨B, 1 + j, none⟩ = some (.int .u32 (h.getD j 0 : Int)) := by
  rw [H.cell, hcs_word h b n j (by rw [H.hl]; exact hj)]
theorem SH.bytes (H : SH w B h b n) (j : Nat) (hj : j < 64) : w.cell? ⟨B, 9 + j, none⟩ = some (.int .u8 ((b.getD j 0).toNat : Int)) := by
  rw [H.cell, hcs_byte h b n j H.hl (by rw [H.bl]; exact hj)]
theorem SH.count (H : SH w B h b n) : w.cell? ⟨B, 73, none⟩ = some (.int .i64 (n : Int)) := by
  rw [H.cell, hcs_count h b n H.hl H.bl]
theorem SH.kept (H : SH w B h b n) (e : w'.heap[B]? = w.heap[B]?) : SH w' B h b n := ⟨H.hl, H.hlt, H.bl, e.trans H.blk⟩
theorem SH.later (H : SH w B h b n) (hb : Below w.heap.size w w') : SH w' B h b n := H.kept (hb.block B H.lt)
theorem set_lt8 (h : List Nat) (i x : Nat) (hr : ∀ j, j < 8 → h.getD j 0 < 4294967296) (hx : x < 4294967296) (j : Nat) (hj : j < 8) : (h.set i x).getD j 0 < 4294967296 := by
  have := hr j hj
  simp only [List.getD, List.getElem?_set] at this ⊢
  split
  · split <;> simp [hx]
  · exact this
theorem SH.setWord (H : SH w B h b n) (j x : Nat) (hj : j < 8) (hx : x < 4294967296) (v : Int) (hv : v = (x : Int)) : SH (w.setCell ⟨B, 1 + j, none⟩ (.int .u32 v)) B (h.set j x) b n := by
  subst hv
  refine ⟨by simp [H.hl], set_lt8 h j x H.hlt hx, H.bl, ?_⟩
  rw [heap_setCell_same _ _ _ _ _ _ H.blk, ← hcs_set h b n j x (by rw [H.hl]; exact hj)]
  simp
theorem SH.setCount (H : SH w B h b n) (m : Nat) (v : Int) (hv : v = (m : Int)) : SH (w.setCell ⟨B, 73, none⟩ (.int .i64 v)) B h b m := by
  subst hv
  refine ⟨H.hl, H.hlt, H.bl, ?_⟩
  rw [heap_setCell_same _ _ _ _ _ _ H.blk, ← hcs_cnt h b n m H.hl H.bl]
  simp
end
/-- only block B of what was there may have turned -/
def Only (B : Nat) (w w' : World) : Prop := w.grownBy w' (some B)
theorem Only.refl (B : Nat) (w : World) : Only B w w := World.grownBy.refl w _
theorem Only.trans {B : Nat} {a b c : World} (h : Only B a b) (k : Only B b c) : Only B a c :=
  ⟨k.os.trans h.os, k.tape.trans h.tape, k.output.trans h.output, Nat.le_trans h.size k.size, fun i hi hne => (k.block i (Nat.lt_of_lt_of_le hi h.size) hne).trans (h.block i hi hne)⟩
theorem Only.of_below {B : Nat} {w w' : World} (h : Below w.heap.size w w') : Only B w w' := ⟨h.os, h.tape, h.output, h.size, fun k hk _ => h.block k hk⟩
theorem Only.drew {B : Nat} {a w : World} (h : Only B a w) : Only B a w.drew := ⟨h.os, h.tape, h.output, h.size, h.block⟩
theorem Only.set {B : Nat} {a w : World} (h : Only B a w) (i : Nat) (u : Value) : Only B a (w.setCell ⟨B, i, none⟩ u) :=
  h.trans ⟨rfl, rfl, rfl, by simp [World.setCell], fun k _ hne => Below.heap_setCell _ _ _ _ (fun e => hne (by rw [e]))⟩
theorem Only.setRow {B : Nat} {a w : World} (h : Only B a w) (cs : Array Value) : Only B a (w.setRow B cs) :=
  h.trans ⟨rfl, rfl, rfl, by simp, fun k _ hne => setRow_other w B k cs (fun e => hne (by rw [e]))⟩
theorem Only.below {B n : Nat} {a w w' : World} (h : Below n a w) (k : Only B w w') (hn : n ≤ B) (hs : n ≤ w.heap.size) : Below n a w' :=
  h.grown k hs (fun j hj => by cases hj; exact hn)
end Go.Proofs.YtiflieaemgamkaaDoor
