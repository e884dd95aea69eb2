/- Rows of the call's own, of any kind of cell, and what is appended to them. -/
import Derived.Test.YtagenkofoacajaaGreatProg
import Derived.WalkKit
import Derived.Lib.Hide
import Derived.Maps.AppendAt
import Derived.Laws.OwnMore
import Derived.OwnWalk
import Derived.Deep.RegionLaw
import Derived.Below
namespace Go.Proofs.YtagenkofoacajaaGreat
open Go.RowKit

/-- a row of the call's own, with these cells -/
def Own (T : TypeId) (w : World) (B : Nat) (v : Value) (xs : List Value) : Prop := w.ownsRow B T 1 v xs.length xs
/-- what lies from a place on -/
def Lay (w : World) (a : Addr) (news : List Value) : Prop := ∀ j u, news[j]? = some u → w.cell? (a.add j) = some u
theorem Own.alloc {T : TypeId} {w : World} {B : Nat} {v : Value} {xs : List Value} (h : Own T w B v xs) (o : Obj) : Own T (w.alloc o) B v xs := World.ownsRow.alloc h o
theorem Own.nil (T : TypeId) (w : World) (B : Nat) : Own T w B (.slice none 0 0) [] := World.ownsRow_nil w B T 1
theorem Own.drew {T : TypeId} {w : World} {B : Nat} {v : Value} {xs : List Value} (h : Own T w B v xs) : Own T w.drew B v xs := h
theorem Lay.new (w : World) (cs : List Value) (T : TypeId) : Lay (w.alloc (.cells cs.toArray T)) ⟨w.heap.size, 0, none⟩ cs := fun j u hj => by
  rw [Addr.add_lit, Nat.zero_add, cell_of_row _ _ _ _ _ _ (heap_alloc_new w (.cells cs.toArray T))]
  simpa using hj
theorem Own.kept {T : TypeId} {w w' : World} {B : Nat} {v : Value} {xs : List Value} (h : Own T w B v xs) (hb : Below w.heap.size w w') : Own T w' B v xs := by
  rcases h with ⟨h1, h | ⟨g, cap, cur, h2, h3, h4, h5⟩⟩
  · exact ⟨h1, .inl h⟩
  · refine ⟨h1, .inr ⟨g, cap, cur, h2, h3, ?_, h5⟩⟩
    rw [hb.block g (by
      rcases Nat.lt_or_ge g w.heap.size with q | q
      · exact q
      · rw [Array.getElem?_eq_none q] at h4
        cases h4)]
    exact h4
theorem Own.cellAt {T : TypeId} {w : World} {B : Nat} {v : Value} {xs : List Value} (h : Own T w B v xs) (hp : 0 < xs.length) : ∃ g cap, v = .slice (some ⟨g, 0, none⟩) xs.length cap ∧ B ≤ g ∧ xs.length ≤ cap ∧ cap ≤ maxLen ∧ ∀ j (_ : j < xs.length), w.cell? ⟨g, j, none⟩ = some xs[j] := by
  rcases h.2 with ⟨_, h0⟩ | ⟨g, cap, cur, h2, h3, h4, h5, h6, h7, h8⟩
  · omega
  · refine ⟨g, cap, h2, h3, h5, h6, fun j hj => ?_⟩
    rw [cell_of_row _ _ _ _ _ _ h4]
    have e : cur.toList[j]? = xs[j]? := by
      rw [← h8, List.getElem?_take, if_pos (by omega)]
    rw [List.getElem?_eq_getElem hj] at e
    simpa using e

theorem run_appV {w : World} {t e : TypeId} {z : Value} {bytes : Nat} (hu : Tryz.prog.underlying t = some (.slice e)) (hinfo : (Tryz.prog.info? e).map (fun i => (i.zero, i.size, i.bytes)) = some (some z, 1, bytes)) (hz : z.cells.size = 1) (hby : bytes ≤ 16)
    (ty : TypeId) (base : Nat) (v : Value) (xs : List Value) (hown : Own e w base v xs) (A : Addr) (c : Nat) (news : List Value) (hl : Lay w A news) (h1 : ∀ u ∈ news, u.oneCell' = true)
    (hm : xs.length + news.length ≤ 3000000) (hbase : base ≤ w.heap.size) :
    ∃ v' w', (Builtin.append_ #[t, t] ty #[v, .slice (some A) news.length c]).run Tryz.prog w = .ok v' w' ∧ Own e w' base v' (xs ++ news) ∧ w.grownBy w' v.ownBlock := by
  obtain ⟨i0, hi, hz0, hz1, hz2⟩ := info_parts hinfo
  have hmul : (xs.length + news.length) * bytes ≤ 3000000 * 16 := Nat.mul_le_mul hm hby
  obtain ⟨v', w', hr, h2, h3, _, _⟩ := run_append_own_at (P := Tryz.prog) w base t ty e i0 z 1 bytes hu hi hz0 hz1 hz2 hz (by decide) v xs.length xs hown A news.length c news
    (by omega) hl h1 (by unfold maxLen; omega) (by omega) hbase
  refine ⟨v', w', hr, ?_, h3⟩
  unfold Own
  rw [List.length_append]
  exact h2
theorem step_appV {ops : Array Oper} {o : Oper} {a : Act} {K : Act → World → Prop} {Q : Exit → Act → World → Prop} {E : Prop} {w : World} (hgd : o.guard = none) (s x : Operand) (t e : TypeId) (z : Value) (bytes : Nat)
    (ho : o.op = .call { callee := .builtin .append, args := #[s, x], argTypes := #[t, t] })
    (hu : Tryz.prog.underlying t = some (.slice e)) (hinfo : (Tryz.prog.info? e).map (fun i => (i.zero, i.size, i.bytes)) = some (some z, 1, bytes)) (hz : z.cells.size = 1) (hby : bytes ≤ 16)
    (B : Nat) (w0 : World) (hb : Below B w0 w) (hB : B ≤ w.heap.size) (v : Value) (xs : List Value) (hs : a.eval s = v) (hown : Own e w B v xs)
    (A : Addr) (m c : Nat) (news : List Value) (hx : a.eval x = .slice (some A) m c) (hml : m = news.length) (hl : Lay w A news) (h1 : ∀ u ∈ news, u.oneCell' = true) (hm : xs.length + news.length ≤ 3000000)
    (h : ∀ v' w', Hid (Own e w' B v' (xs ++ news)) → Hid (Below B w0 w') → Hid (B ≤ w'.heap.size) → K (a.put o.dst v') w') :
    if Region.wanted o (yielded ops a.tmps) = true then Oper.wp Tryz.prog o a w K Q else E := by
  subst hml
  have hw : Region.wanted o (yielded ops a.tmps) = true := by simp [Region.wanted, hgd]
  rw [if_pos hw]
  obtain ⟨v', w', hr, h2, h3⟩ := run_appV hu hinfo hz hby o.type B v xs hown A c news hl h1 hm hB
  unfold Oper.wp execOp
  simp only [ho, resolve, invoke, builtin, Sem.run_bind, Sem.run_pure, Result.andThen_ok, List.map_toArray, List.map_cons, List.map_nil, hs, hx, hr]
  exact h v' w' h2 (hb.grown h3 hB (fun k hk => (World.ownsRow.lt hown k hk).1)) (Nat.le_trans hB h3.size)
theorem wpList_appV {ops : Array Oper} {rest : List Oper} {o : Oper} {a : Act} {Q : Exit → Act → World → Prop} {w : World} (hgd : o.guard = none) (s x : Operand) (t e : TypeId) (z : Value) (bytes : Nat)
    (ho : o.op = .call { callee := .builtin .append, args := #[s, x], argTypes := #[t, t] })
    (hu : Tryz.prog.underlying t = some (.slice e)) (hinfo : (Tryz.prog.info? e).map (fun i => (i.zero, i.size, i.bytes)) = some (some z, 1, bytes)) (hz : z.cells.size = 1) (hby : bytes ≤ 16)
    (B : Nat) (w0 : World) (hb : Below B w0 w) (hB : B ≤ w.heap.size) (v : Value) (xs : List Value) (hs : a.eval s = v) (hown : Own e w B v xs)
    (A : Addr) (m c : Nat) (news : List Value) (hx : a.eval x = .slice (some A) m c) (hml : m = news.length) (hl : Lay w A news) (h1 : ∀ u ∈ news, u.oneCell' = true) (hm : xs.length + news.length ≤ 3000000)
    (h : ∀ v' w', Hid (Own e w' B v' (xs ++ news)) → Hid (Below B w0 w') → Hid (B ≤ w'.heap.size) → wpList Tryz.prog ops Q rest (a.put o.dst v') w') : wpList Tryz.prog ops Q (o :: rest) a w := by
  subst hml
  refine wpList_plain hgd fun K hK => ?_
  obtain ⟨v', w', hr, h2, h3⟩ := run_appV hu hinfo hz hby o.type B v xs hown A c news hl h1 hm hB
  unfold Oper.wp execOp
  simp only [ho, resolve, invoke, builtin, Sem.run_bind, Sem.run_pure, Result.andThen_ok, List.map_toArray, List.map_cons, List.map_nil, hs, hx, hr]
  exact hK _ _ (h v' w' h2 (hb.grown h3 hB (fun k hk => (World.ownsRow.lt hown k hk).1)) (Nat.le_trans hB h3.size))
theorem wpList_appG {ops : Array Oper} {rest : List Oper} {o : Oper} {a : Act} {Q : Exit → Act → World → Prop} {w : World} (hgd : o.guard = none) (s x : Operand) (t e : TypeId) (z : Value) (bytes : Nat)
    (ho : o.op = .call { callee := .builtin .append, args := #[s, x], argTypes := #[t, t] })
    (hu : Tryz.prog.underlying t = some (.slice e)) (hinfo : (Tryz.prog.info? e).map (fun i => (i.zero, i.size, i.bytes)) = some (some z, 1, bytes)) (hz : z.cells.size = 1) (hby : bytes ≤ 16)
    (B : Nat) (w0 : World) (hb : Below B w0 w) (hB : B ≤ w.heap.size) (v : Value) (xs : List Value) (hs : a.eval s = v) (hown : Own e w B v xs)
    (A : Addr) (m c : Nat) (news : List Value) (hx : a.eval x = .slice (some A) m c) (hml : m = news.length) (hl : Lay w A news) (h1 : ∀ u ∈ news, u.oneCell' = true) (hm : xs.length + news.length ≤ 3000000)
    (h : ∀ v' w', Hid (Own e w' B v' (xs ++ news)) → Hid (Below B w0 w') → Hid (B ≤ w'.heap.size) → Hid (w.grownBy w' v.ownBlock) → wpList Tryz.prog ops Q rest (a.put o.dst v') w') : wpList Tryz.prog ops Q (o :: rest) a w := by
  subst hml
  refine wpList_plain hgd fun K hK => ?_
  obtain ⟨v', w', hr, h2, h3⟩ := run_appV hu hinfo hz hby o.type B v xs hown A c news hl h1 hm hB
  unfold Oper.wp execOp
  simp only [ho, resolve, invoke, builtin, Sem.run_bind, Sem.run_pure, Result.andThen_ok, List.map_toArray, List.map_cons, List.map_nil, hs, hx, hr]
  exact hK _ _ (h v' w' h2 (hb.grown h3 hB (fun k hk => (World.ownsRow.lt hown k hk).1)) (Nat.le_trans hB h3.size) h3)
theorem own_ne {T T' : TypeId} {w : World} {B : Nat} {v : Value} {xs : List Value} (h : Own T w B v xs) {M : Nat} {cs : Array Value} {fz : Nat × Nat} (hM : w.heap[M]? = some (.cells cs T' fz)) (hne : T ≠ T') : some M ≠ v.ownBlock := by
  rcases h.2 with ⟨rfl, _⟩ | ⟨g, cap, cur, rfl, _, h4, _⟩
  · simp [Value.ownBlock]
  · intro e
    have e2 : M = g := by simpa [Value.ownBlock] using e
    subst e2
    rw [hM] at h4
    injection h4 with h4
    injection h4 with _ h5 _
    exact hne h5.symm
end Go.Proofs.YtagenkofoacajaaGreat
