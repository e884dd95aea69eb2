/- Words on slices of structs, once more: what is appended is a slice that came in, or one that is cut out of it; a row that Grow made. No condition. -/
import Derived.Test.YtiflieaemgamkaaDoorPr
import Derived.Test.YtiflieaemgamkaaDoorZb
import Derived.Lib.AppendZerosOnto
namespace Go.Proofs.YtiflieaemgamkaaDoor
open Go.RowKit

theorem flat_inv {α : Type} {f : α → List Value} {s : Nat} (hf : ∀ x, (f x).length = s) (hs0 : 0 < s) (l : List α) (j : Nat) (u : Value) (h : (flat f l)[j]? = some u) : ∃ (k r : Nat) (x : α), j = k * s + r ∧ l[k]? = some x ∧ (f x)[r]? = some u := by
  have hj := (List.getElem?_eq_some_iff.1 h).1
  rw [flat_len hf] at hj
  have hk : j / s < l.length := (Nat.div_lt_iff_lt_mul hs0).2 hj
  have hr : j % s < s := Nat.mod_lt _ hs0
  have hx : l[j / s]? = some l[j / s] := List.getElem?_eq_getElem hk
  have hu : (f l[j / s])[j % s]? = some ((f l[j / s])[j % s]'(by rw [hf]; exact hr)) := List.getElem?_eq_getElem _
  have e : j / s * s + j % s = j := by rw [Nat.mul_comm]; exact Nat.div_add_mod j s
  have hg := flat_get hf l (j / s) (j % s) _ _ hx hu
  rw [e, h] at hg
  exact ⟨j / s, j % s, _, e.symm, hx, by rw [hu]; exact hg.symm⟩
theorem run_appNil {α : Type} {f : α → List Value} {s : Nat} {w : World} {t e : TypeId} {z : Value} {bytes : Nat} (hu : Tryd.prog.underlying t = some (.slice e)) (hinfo : (Tryd.prog.info? e).map (fun i => (i.zero, i.size, i.bytes)) = some (some z, s, bytes))
    (ty : TypeId) (B : Nat) (v : Value) (l : List α) (hown : OwX f s e w B v l) (c : Nat) :
    (Builtin.append_ #[t, t] ty #[v, .slice none 0 c]).run Tryd.prog w = .ok v w := by
  obtain ⟨i0, hi, _, hz1, _⟩ := info_parts hinfo
  have hu' := run_underlying (P := Tryd.prog) hu
  rcases hown.2 with ⟨rfl, h0⟩ | ⟨g, cap, cur, rfl, _, _, hnc, _⟩
  · simp [Builtin.append_, hu', sizeOf, typeInfo, hi, Builtin.lenOf, Builtin.firstCells]
  · simp [Builtin.append_, hu', sizeOf, typeInfo, hi, Builtin.lenOf, Builtin.firstCells, hnc, storeCells]
theorem run_appXs {α : Type} {f : α → List Value} {s : Nat} {w : World} {t e : TypeId} {z : Value} {bytes : Nat} (hu : Tryd.prog.underlying t = some (.slice e)) (hinfo : (Tryd.prog.info? e).map (fun i => (i.zero, i.size, i.bytes)) = some (some z, s, bytes)) (hz : z.cells.size = s) (hs0 : 0 < s) (hby : bytes ≤ 100)
    (hf : ∀ x, (f x).length = s) (h1 : ∀ x, ∀ u ∈ f x, u.oneCell' = true) (ty : TypeId) (B : Nat) (v : Value) (l : List α) (hown : OwX f s e w B v l)
    (A : Option Addr) (m c : Nat) (ys : List α) (hr : RdX f s w A m ys) (hm : l.length + m ≤ 1000000) (hbase : B ≤ w.heap.size) :
    ∃ v' w', (Builtin.append_ #[t, t] ty #[v, .slice A m c]).run Tryd.prog w = .ok v' w' ∧ OwX f s e w' B v' (l ++ ys) ∧ w.grownBy w' v.ownBlock := by
  have hl := hr.1
  rcases A with _ | ad
  · have h0 : m = 0 := by
      rcases Nat.eq_zero_or_pos m with h0 | h0
      · exact h0
      · obtain ⟨b, off, e, _⟩ := hr.2 h0
        cases e
    subst h0
    have e0 : ys = [] := List.length_eq_zero_iff.1 hl
    subst e0
    exact ⟨v, w, run_appNil hu hinfo ty B v l hown c, by rw [List.append_nil]; exact hown, World.grownBy.refl w _⟩
  · obtain ⟨i0, hi, hz0, hz1, hz2⟩ := info_parts hinfo
    have hmul : (l.length + m) * bytes ≤ 1000000 * 100 := Nat.mul_le_mul hm hby
    have hcells : ∀ j u, (flat f ys)[j]? = some u → w.cell? (ad.add j) = some u := by
      intro j u hj
      obtain ⟨k, r, x, rfl, hx, hu2⟩ := flat_inv hf hs0 ys j u hj
      have hk := (List.getElem?_eq_some_iff.1 hx).1
      obtain ⟨b, off, e1, _, hc⟩ := hr.2 (by omega)
      cases e1
      rw [Addr.add_lit]
      have := hc k x r u hx hu2
      rwa [Nat.add_assoc] at this
    obtain ⟨v', w', hrun, h2, h3, _, _⟩ := run_append_own_at (P := Tryd.prog) w B t ty e i0 z s bytes hu hi hz0 hz1 hz2 hz hs0 v l.length (flat f l) hown ad m c (flat f ys)
      (by rw [flat_len hf, hl]) hcells (fun u hu2 => by
        unfold flat at hu2
        obtain ⟨x, _, hx⟩ := List.mem_flatMap.1 hu2
        exact h1 x u hx) (by unfold maxLen; omega) (by omega) hbase
    refine ⟨v', w', hrun, ?_, h3⟩
    unfold OwX
    rw [List.length_append, flat_app, hl]
    exact h2
theorem wpList_appXs {α : Type} {f : α → List Value} {s : Nat} {ops : Array Oper} {rest : List Oper} {o : Oper} {a : Act} {Q : Exit → Act → World → Prop} {w : World} (hgd : o.guard = none) (sl xo : Operand) (t e : TypeId) (z : Value) (bytes : Nat)
    (ho : o.op = .call { callee := .builtin .append, args := #[sl, xo], argTypes := #[t, t] })
    (hu : Tryd.prog.underlying t = some (.slice e)) (hinfo : (Tryd.prog.info? e).map (fun i => (i.zero, i.size, i.bytes)) = some (some z, s, bytes)) (hz : z.cells.size = s) (hs0 : 0 < s) (hby : bytes ≤ 100)
    (hf : ∀ x, (f x).length = s) (h1 : ∀ x, ∀ u ∈ f x, u.oneCell' = true)
    (B : Nat) (w0 : World) (hb : Below B w0 w) (hB : B ≤ w.heap.size) (v : Value) (l : List α) (hs : a.eval sl = v) (hown : OwX f s e w B v l)
    (A : Option Addr) (m c : Nat) (ys : List α) (hx : a.eval xo = .slice A m c) (hr : RdX f s w A m ys) (hm : l.length + m ≤ 1000000)
    (h : ∀ v' w', Hid (OwX f s e w' B v' (l ++ ys)) → Hid (Below B w0 w') → Hid (B ≤ w'.heap.size) → Hid (w.grownBy w' v.ownBlock) → wpList Tryd.prog ops Q rest (a.put o.dst v') w') : wpList Tryd.prog ops Q (o :: rest) a w := by
  refine wpList_plain hgd fun K hK => ?_
  obtain ⟨v', w', hrun, h2, h3⟩ := run_appXs hu hinfo hz hs0 hby hf h1 o.type B v l hown A m c ys hr hm hB
  unfold Oper.wp execOp
  simp only [ho, resolve, invoke, builtin, Sem.run_bind, Sem.run_pure, Result.andThen_ok, List.map_toArray, List.map_cons, List.map_nil, hs, hx, hrun]
  exact hK _ _ (h v' w' h2 (hb.grown h3 hB (fun k hk => (World.ownsRow.lt hown k hk).1)) (Nat.le_trans hB h3.size) h3)
theorem step_appXs {α : Type} {f : α → List Value} {s : Nat} {ops : Array Oper} {o : Oper} {a : Act} {K : Act → World → Prop} {Q : Exit → Act → World → Prop} {E : Prop} {w : World} (hgd : o.guard = none) (sl xo : Operand) (t e : TypeId) (z : Value) (bytes : Nat)
    (ho : o.op = .call { callee := .builtin .append, args := #[sl, xo], argTypes := #[t, t] })
    (hu : Tryd.prog.underlying t = some (.slice e)) (hinfo : (Tryd.prog.info? e).map (fun i => (i.zero, i.size, i.bytes)) = some (some z, s, bytes)) (hz : z.cells.size = s) (hs0 : 0 < s) (hby : bytes ≤ 100)
    (hf : ∀ x, (f x).length = s) (h1 : ∀ x, ∀ u ∈ f x, u.oneCell' = true)
    (B : Nat) (w0 : World) (hb : Below B w0 w) (hB : B ≤ w.heap.size) (v : Value) (l : List α) (hs : a.eval sl = v) (hown : OwX f s e w B v l)
    (A : Option Addr) (m c : Nat) (ys : List α) (hx : a.eval xo = .slice A m c) (hr : RdX f s w A m ys) (hm : l.length + m ≤ 1000000)
    (h : ∀ v' w', Hid (OwX f s e w' B v' (l ++ ys)) → Hid (Below B w0 w') → Hid (B ≤ w'.heap.size) → Hid (w.grownBy w' v.ownBlock) → K (a.put o.dst v') w') :
    if Region.wanted o (yielded ops a.tmps) = true then Oper.wp Tryd.prog o a w K Q else E := by
  have hw : Region.wanted o (yielded ops a.tmps) = true := by simp [Region.wanted, hgd]
  rw [if_pos hw]
  obtain ⟨v', w', hrun, h2, h3⟩ := run_appXs hu hinfo hz hs0 hby hf h1 o.type B v l hown A m c ys hr hm hB
  unfold Oper.wp execOp
  simp only [ho, resolve, invoke, builtin, Sem.run_bind, Sem.run_pure, Result.andThen_ok, List.map_toArray, List.map_cons, List.map_nil, hs, hx, hrun]
  exact h v' w' h2 (hb.grown h3 hB (fun k hk => (World.ownsRow.lt hown k hk).1)) (Nat.le_trans hB h3.size) h3
theorem OwX.zero {α : Type} {f : α → List Value} {s : Nat} {T : TypeId} {W : World} {p B c : Nat} {cs : Array Value} (h : W.heap[p]? = some (.cells cs T (0, 0))) (hB : B ≤ p) (hc : c ≤ maxLen) (hz : cs.size = c * s) : OwX f s T W B (.slice (some ⟨p, 0, none⟩) 0 c) [] :=
  ⟨by simp [flat], .inr ⟨p, c, cs, rfl, hB, h, Nat.zero_le _, hc, hz, by simp [flat]⟩⟩
theorem RdX.take {α : Type} {f : α → List Value} {s : Nat} {w : World} {A : Option Addr} {n : Nat} {l : List α} (h : RdX f s w A n l) (k : Nat) (hk : k ≤ n) : RdX f s w A k (l.take k) :=
  ⟨by rw [List.length_take, h.1]; omega, fun hp => by
    obtain ⟨b, off, e, hlt, hc⟩ := h.2 (by omega)
    refine ⟨b, off, e, hlt, fun i x j u hx hu => hc i x j u ?_ hu⟩
    rw [List.getElem?_take] at hx
    split at hx
    · exact hx
    · cases hx⟩
/-- the address at which a slice that is cut at its front begins -/
def cutX (s : Nat) (A : Option Addr) (c k : Nat) : Option Addr := if c = k then A else A.map (·.add (k * s))
theorem RdX.drop {α : Type} {f : α → List Value} {s : Nat} {w : World} {A : Option Addr} {n c : Nat} {l : List α} (h : RdX f s w A n l) (k : Nat) (hk : k ≤ n) (hc : n ≤ c) : RdX f s w (cutX s A c k) (n - k) (l.drop k) :=
  ⟨by rw [List.length_drop, h.1], fun hp => by
    obtain ⟨b, off, e, hlt, hcl⟩ := h.2 (by omega)
    subst e
    refine ⟨b, off + k * s, ?_, hlt, fun i x j u hx hu => ?_⟩
    · unfold cutX
      rw [if_neg (by omega)]
      show some (Addr.add ⟨b, off, none⟩ (k * s)) = _
      rw [Addr.add_lit]
    · rw [List.getElem?_drop] at hx
      have := hcl (k + i) x j u hx hu
      rw [Nat.add_mul, ← Nat.add_assoc off] at this
      exact this⟩
end Go.Proofs.YtiflieaemgamkaaDoor
