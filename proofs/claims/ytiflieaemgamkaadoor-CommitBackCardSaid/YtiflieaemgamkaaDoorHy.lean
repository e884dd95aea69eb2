/- Plain facts on how a sum goes on, byte by byte; the contract of (*sha.Hash).add over this translation. -/
import Derived.Test.YtiflieaemgamkaaDoorHj
import Derived.Lib.BufferWrite
import Derived.Deep.RegionLaw
namespace Go.Proofs.YtiflieaemgamkaaDoor
open Go.RowKit Hm

theorem blocks_succ : ∀ (q : Nat) (h : List Nat) (l : List UInt8), blocks (q + 1) h l = mix (blocks q h l) ((l.drop (64 * q)).take 64)
  | 0, h, l => by rw [Nat.mul_zero, List.drop_zero]; rfl
  | q + 1, h, l => by
    show blocks (q + 1) (mix h (l.take 64)) (l.drop 64) = _
    rw [blocks_succ q, List.drop_drop]
    show mix (blocks (q + 1) h l) _ = _
    rw [show 64 + 64 * q = 64 * (q + 1) by omega]
theorem blocks_app : ∀ (q : Nat) (h : List Nat) (l r : List UInt8), 64 * q ≤ l.length → blocks q h (l ++ r) = blocks q h l
  | 0, _, _, _, _ => rfl
  | q + 1, h, l, r, hq => by
    show blocks q (mix h ((l ++ r).take 64)) ((l ++ r).drop 64) = blocks q (mix h (l.take 64)) (l.drop 64)
    rw [List.take_append_of_le_length (by omega), List.drop_append_of_le_length (by omega), blocks_app q _ _ _ (by rw [List.length_drop]; omega)]
/-- the words behind the full blocks of bytes -/
def blk (l : List UInt8) : List Nat := blocks (l.length / 64) first l
/-- a sum of these bytes, on its way, in the block B -/
def SL (w : World) (B : Nat) (l : List UInt8) : Prop := ∃ b, SH w B (blk l) b l.length ∧ b.take (l.length % 64) = l.drop (64 * (l.length / 64))
theorem SL.kept {w w' : World} {B : Nat} {l : List UInt8} (h : SL w B l) (hb : w'.heap[B]? = w.heap[B]?) : SL w' B l := by
  obtain ⟨b, h1, h2⟩ := h
  exact ⟨b, h1.kept hb, h2⟩
theorem SL.later {w w' : World} {B : Nat} {l : List UInt8} (h : SL w B l) (hb : Below w.heap.size w w') : SL w' B l := by
  obtain ⟨b, h1, h2⟩ := h
  exact ⟨b, h1.later hb, h2⟩
theorem SL.lt {w : World} {B : Nat} {l : List UInt8} (h : SL w B l) : B < w.heap.size := by
  obtain ⟨b, h1, _⟩ := h
  exact h1.lt
theorem splice_len (b t : List UInt8) (m : Nat) (h : m + t.length ≤ b.length) : (splice b m t).length = b.length := length_splice b m t h
theorem splice_take (b t : List UInt8) (m : Nat) (h : m ≤ b.length) : (splice b m t).take (m + t.length) = b.take m ++ t := by
  unfold splice
  rw [List.take_append, List.length_take, Nat.min_eq_left h, List.take_of_length_le (by rw [List.length_take]; omega), Nat.add_sub_cancel_left, List.take_append, List.take_of_length_le (Nat.le_refl _), Nat.sub_self, List.take_zero, List.append_nil]
theorem blk_part (l t : List UInt8) (h : l.length % 64 + t.length < 64) : blk (l ++ t) = blk l ∧ (l ++ t).length / 64 = l.length / 64 ∧ (l ++ t).length % 64 = l.length % 64 + t.length := by
  have e1 : (l ++ t).length / 64 = l.length / 64 := by rw [List.length_append]; omega
  refine ⟨?_, e1, by rw [List.length_append]; omega⟩
  unfold blk
  rw [e1, blocks_app _ _ _ _ (by omega)]
theorem blk_full (l t b : List UInt8) (h : l.length % 64 + t.length = 64) (hb : b.length = 64) (hp : b.take (l.length % 64) = l.drop (64 * (l.length / 64))) : blk (l ++ t) = mix (blk l) (splice b (l.length % 64) t) ∧ (l ++ t).length % 64 = 0 := by
  have e1 : (l ++ t).length / 64 = l.length / 64 + 1 := by rw [List.length_append]; omega
  have e2 : ((l ++ t).drop (64 * (l.length / 64))).take 64 = splice b (l.length % 64) t := by
    have h1 := splice_take b t (l.length % 64) (by omega)
    rw [h, List.take_of_length_le (by rw [splice_len _ _ _ (by omega)]; omega), hp] at h1
    rw [h1, List.drop_append_of_le_length (by omega), List.take_of_length_le]
    rw [List.length_append, List.length_drop]
    omega
  refine ⟨?_, by rw [List.length_append]; omega⟩
  unfold blk
  rw [e1, blocks_succ, e2, blocks_app _ _ _ _ (by omega)]

theorem run_copyS {P : Program} (w : World) (dT sT ty elem : TypeId) (g o dLen dCap p : Nat) (s : ByteArray) (cur : Array Value) (t : TypeId)
    (hu : P.underlying dT = some (.slice elem)) (hs : (P.info? elem).map (·.size) = some 1) (hg : w.heap[g]? = some (.cells cur t (0, 0))) (hp : Nat.min s.size dLen = p) (hfit : o + p ≤ cur.size) :
    (Builtin.copy_ #[dT, sT] ty #[.slice (some ⟨g, o, none⟩) dLen dCap, .string s]).run P w = .ok (goInt p) (w.setRow g (cur.toList.take o ++ (s.data.toList.take p).map u8v ++ cur.toList.drop (o + p)).toArray) := by
  have hl : ((s.data.toList.take p).map u8v).length = p := by
    have : s.data.toList.length = s.size := by simp
    have h2 : p ≤ s.size := by rw [← hp]; exact Nat.min_le_left _ _
    rw [List.length_map, List.length_take, this]
    omega
  have hst := run_storeCells_at P g o t ((s.data.toList.take p).map u8v) 0 cur w hg (by rw [hl]; simpa using hfit) (fun v hv => by obtain ⟨x, _, rfl⟩ := List.mem_map.1 hv; rfl)
  have htk : List.take p (List.map (fun b : UInt8 => Value.int IntKind.u8 (b.toNat : Int)) s.data.toList) = (s.data.toList.take p).map u8v := by
    rw [← List.map_take]
    rfl
  rw [hl] at hst
  simp only [Nat.add_zero] at hst
  cases hq : P.info? elem with
  | none => simp [hq] at hs
  | some i =>
    simp [Builtin.copy_, run_underlying hu, Builtin.lenOf, Builtin.firstCells, sizeOf, typeInfo, hq, hp]
    rw [htk, hst]
    simp [Result.andThen]
theorem step_copyS {ops : Array Oper} {o : Oper} {a : Act} {w : World} {K : Act → World → Prop} {Q : Exit → Act → World → Prop} {E : Prop} (hgd : o.guard = none) (d s : Operand)
    (ho : o.op = .call { callee := .builtin .copy, args := #[d, s], argTypes := #[89, 9] })
    (B : Nat) (h : List Nat) (b : List UInt8) (n m p : Nat) (H : SH w B h b n) (t : ByteArray) (hd : a.eval d = .slice (some ⟨B, 9 + m, none⟩) (64 - m) (64 - m)) (hs : a.eval s = .string t) (hm : m ≤ 64) (hp : Nat.min t.size (64 - m) = p)
    (hK : ∀ w', Hid (SH w' B h (splice b m (t.data.toList.take p)) n) → Hid (Only B w w') → K (a.put o.dst (.int .i64 (p : Int))) w') :
    if Region.wanted o (yielded ops a.tmps) = true then Oper.wp Tryd.prog o a w K Q else E := by
  have hw : Region.wanted o (yielded ops a.tmps) = true := by simp [Region.wanted, hgd]
  rw [if_pos hw]
  have hpl : p ≤ 64 - m := by rw [← hp]; exact Nat.min_le_right _ _
  have hps : p ≤ t.size := by rw [← hp]; exact Nat.min_le_left _ _
  have htl : (t.data.toList.take p).length = p := by
    have : t.data.toList.length = t.size := by simp
    rw [List.length_take, this]
    omega
  have hlen := hcs_len h b n H.hl H.bl
  have hrun := run_copyS (P := Tryd.prog) w 89 9 o.type 5 B (9 + m) (64 - m) (64 - m) p t (hcs h b n).toArray 73 Tryd.underlying89 (by kernel_rfl) H.blk hp (by simp [hlen]; omega)
  unfold Oper.wp
  simp [execOp, ho, resolve, invoke, builtin, hd, hs, hrun, Result.andThen]
  refine hK _ ?_ ((Only.refl B w).setRow _)
  refine ⟨H.hl, H.hlt, by rw [splice_len _ _ _ (by rw [htl, H.bl]; omega)]; exact H.bl, ?_⟩
  rw [setRow_heap w B _ _ _ _ H.blk, ← hcs_put h b (t.data.toList.take p) n m H.hl (by rw [htl, H.bl]; omega)]
  unfold splice
  rw [List.length_map, htl]
  simp
end Go.Proofs.YtiflieaemgamkaaDoor
