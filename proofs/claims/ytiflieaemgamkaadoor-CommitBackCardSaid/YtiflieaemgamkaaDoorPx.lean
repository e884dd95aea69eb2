/- Words on walks in which a few old boxes are stored into, and rows of the call's own are appended to: the relation 'of what was there only the boxes of a list may have turned'. No condition. -/
import Derived.Test.YtiflieaemgamkaaDoorPr
import Derived.Test.YtiflieaemgamkaaDoorZb
namespace Go.Proofs.YtiflieaemgamkaaDoor
open Go.RowKit Vi

structure KK (l : List Nat) (w W : World) : Prop where
  os : W.os = w.os
  tape : W.tape = w.tape
  output : W.output = w.output
  size : w.heap.size ≤ W.heap.size
  block : ∀ i, i < w.heap.size → i ∉ l → W.heap[i]? = w.heap[i]?
theorem KK.refl (l : List Nat) (w : World) : KK l w w := ⟨rfl, rfl, rfl, Nat.le_refl _, fun _ _ _ => rfl⟩
theorem KK.trans {l : List Nat} {a b c : World} (h : KK l a b) (k : KK l b c) : KK l a c :=
  ⟨k.os.trans h.os, k.tape.trans h.tape, k.output.trans h.output, Nat.le_trans h.size k.size, fun i hi hn => (k.block i (Nat.lt_of_lt_of_le hi h.size) hn).trans (h.block i hi hn)⟩
theorem KK.of_below {l : List Nat} {w w' : World} (h : Below w.heap.size w w') : KK l w w' := ⟨h.os, h.tape, h.output, h.size, fun k hk _ => h.block k hk⟩
theorem KK.of_but {l : List Nat} {b : Nat} {w w' : World} (h : But b w w') (hb : b ∈ l) : KK l w w' :=
  ⟨h.os, h.tape, h.output, h.size, fun i hi hn => h.block i hi (fun e => hn (by cases e; exact hb))⟩
theorem KK.drewl {l : List Nat} {w W : World} (k : KK l w.drew W) : KK l w W := ⟨k.os, k.tape, k.output, k.size, k.block⟩
theorem KK.alloc {l : List Nat} {a w : World} (h : KK l a w) (o : Obj) : KK l a (w.alloc o) := h.trans (KK.of_below ((Below.refl _ _).alloc (Nat.le_refl _) _))
theorem KK.set {l : List Nat} {a w : World} (h : KK l a w) {b : Nat} (hb : b ∈ l) (i : Nat) (u : Value) : KK l a (w.setCell ⟨b, i, none⟩ u) :=
  h.trans (KK.of_but ((But.refl b w).set i u) hb)
theorem KK.setNew {l : List Nat} {a w : World} (h : KK l a w) {b : Nat} (hb : a.heap.size ≤ b) (i : Nat) (u : Value) : KK l a (w.setCell ⟨b, i, none⟩ u) := by
  have k : KK [b] w (w.setCell ⟨b, i, none⟩ u) := KK.of_but ((But.refl b w).set i u) (by simp)
  exact ⟨k.os.trans h.os, k.tape.trans h.tape, k.output.trans h.output, Nat.le_trans h.size k.size, fun j hj hn => (k.block j (Nat.lt_of_lt_of_le hj h.size) (by simp; omega)).trans (h.block j hj hn)⟩
theorem KK.row {l : List Nat} {a w w' : World} {b n : Nat} (h : KK l a w) (hb : b ∈ l ∨ a.heap.size ≤ b) (hbel : Below n w w') (ho : ∀ k, k ≠ b → w'.heap[k]? = w.heap[k]?) : KK l a w' :=
  ⟨hbel.os.trans h.os, hbel.tape.trans h.tape, hbel.output.trans h.output, Nat.le_trans h.size hbel.size, fun i hi hn => (ho i (fun e => by
    rcases hb with hb | hb
    · exact hn (e ▸ hb)
    · omega)).trans (h.block i hi hn)⟩
theorem KK.below {l : List Nat} {n : Nat} {w0 w W : World} (k : KK l w W) (h : Below n w0 w) (hl : ∀ b ∈ l, n ≤ b) (hs : n ≤ w.heap.size) : Below n w0 W :=
  ⟨k.os.trans h.os, k.tape.trans h.tape, k.output.trans h.output, Nat.le_trans h.size k.size, fun i hi => (k.block i (Nat.lt_of_lt_of_le hi hs) (fun e => by have := hl i e; omega)).trans (h.block i hi)⟩
theorem KK.blk {l : List Nat} {w W : World} {b : Nat} {o : Obj} (k : KK l w W) (h : w.heap[b]? = some o) (hb : b ∉ l) : W.heap[b]? = some o := (k.block b (lt_of_block h) hb).trans h
theorem OwX.kk {α : Type} {f : α → List Value} {s : Nat} {T : TypeId} {w W : World} {B : Nat} {v : Value} {l : List α} {m : List Nat} (h : OwX f s T w B v l) (k : KK m w W) (hm : ∀ b ∈ m, b < B) : OwX f s T W B v l := by
  rcases h with ⟨h1, h | ⟨g, cap, cur, h2, h3, h4, h5⟩⟩
  · exact ⟨h1, .inl h⟩
  · exact ⟨h1, .inr ⟨g, cap, cur, h2, h3, k.blk h4 (fun e => by have := hm g e; omega), h5⟩⟩
/-- a row of another kind stays when one is appended to -/
theorem OwX.other {α β : Type} {f : α → List Value} {g : β → List Value} {s s' : Nat} {T T' : TypeId} {w w' : World} {B B' : Nat} {v v2 : Value} {l : List α} {l2 : List β} (h : OwX f s T w B v l) (k : OwX g s' T' w B' v2 l2) (hT : T ≠ T') (hg : w.grownBy w' v2.ownBlock) : OwX f s T w' B v l := by
  rcases h with ⟨h1, h | ⟨b, cap, cur, h2, h3, h4, h5⟩⟩
  · exact ⟨h1, .inl h⟩
  · refine ⟨h1, .inr ⟨b, cap, cur, h2, h3, ?_, h5⟩⟩
    rw [hg.block b (lt_of_block h4) (fun e => by
      rcases k.2 with ⟨hv, _⟩ | ⟨b2, cap2, cur2, hv, _, h6, _⟩
      · rw [hv] at e; simp [Value.ownBlock] at e
      · rw [hv] at e
        simp [Value.ownBlock] at e
        subst e
        rw [h6] at h4
        cases h4
        exact hT rfl)]
    exact h4
/-- a box of another kind stays, too -/
theorem OwX.box {β : Type} {g : β → List Value} {s' : Nat} {T' : TypeId} {w w' : World} {B' : Nat} {v2 : Value} {l2 : List β} (k : OwX g s' T' w B' v2 l2) (hg : w.grownBy w' v2.ownBlock) {b : Nat} {cs : Array Value} {T : TypeId} {fr : Nat × Nat} (h : w.heap[b]? = some (.cells cs T fr)) (hT : T ≠ T' ∨ b < B') : w'.heap[b]? = some (.cells cs T fr) := by
  rw [hg.block b (lt_of_block h) (fun e => by
    rcases k.2 with ⟨hv, _⟩ | ⟨b2, cap2, cur2, hv, hB, h6, _⟩
    · rw [hv] at e; simp [Value.ownBlock] at e
    · rw [hv] at e
      simp [Value.ownBlock] at e
      subst e
      rw [h6] at h
      cases h
      rcases hT with hT | hT
      · exact hT rfl
      · omega)]
  exact h
def slLen : Value → Nat
  | .slice _ n _ => n
  | _ => 0
theorem OwX.lenL {α : Type} {f : α → List Value} {s : Nat} {T : TypeId} {w : World} {B : Nat} {v : Value} {l : List α} (h : OwX f s T w B v l) : slLen v = l.length := by
  rcases h.2 with ⟨e, h0⟩ | ⟨g, cap, cur, e, _⟩
  · rw [e, h0]; rfl
  · rw [e]; rfl
theorem OwX.sl {α : Type} {f : α → List Value} {s : Nat} {T : TypeId} {w : World} {B : Nat} {v : Value} {l : List α} (h : OwX f s T w B v l) : ∃ A c, v = .slice A l.length c := by
  rcases h.2 with ⟨e, h0⟩ | ⟨g, cap, cur, e, _⟩
  · exact ⟨none, 0, by rw [e, h0]⟩
  · exact ⟨_, _, e⟩
theorem OwX.sl3 {α : Type} {f : α → List Value} {s : Nat} {T : TypeId} {w : World} {B : Nat} {v : Value} {l : List α} (h : OwX f s T w B v l) : ∃ A n c, v = .slice A n c := by
  obtain ⟨A, c, e⟩ := h.sl; exact ⟨A, _, c, e⟩
theorem OwX.one {α : Type} {f : α → List Value} {s : Nat} {T : TypeId} {w : World} {B : Nat} {v : Value} {l : List α} (h : OwX f s T w B v l) : v.oneCell' = true := by
  obtain ⟨A, c, rfl⟩ := h.sl; rfl
theorem step_appX {α : Type} {f : α → List Value} {s : Nat} {ops : Array Oper} {o : Oper} {a : Act} {K : Act → World → Prop} {Q : Exit → Act → World → Prop} {E : Prop} {w : World} (hgd : o.guard = none) (sl xo : Operand) (t e : TypeId) (z : Value) (bytes : Nat)
    (ho : o.op = .call { callee := .builtin .append, args := #[sl, xo], argTypes := #[t, t] })
    (hu : Tryd.prog.underlying t = some (.slice e)) (hinfo : (Tryd.prog.info? e).map (fun i => (i.zero, i.size, i.bytes)) = some (some z, s, bytes)) (hz : z.cells.size = s) (hs0 : 0 < s) (hby : bytes ≤ 100)
    (hf : ∀ x, (f x).length = s) (h1 : ∀ x, ∀ u ∈ f x, u.oneCell' = true)
    (B : Nat) (w0 : World) (hb : Below B w0 w) (hB : B ≤ w.heap.size) (v : Value) (l : List α) (hs : a.eval sl = v) (hown : OwX f s e w B v l)
    (bn c : Nat) (x : α) (cs : Array Value) (T' : TypeId) (fr : Nat × Nat) (hx : a.eval xo = .slice (some ⟨bn, 0, none⟩) 1 c) (hbn : w.heap[bn]? = some (.cells cs T' fr)) (hcs : cs.toList = f x) (hm : l.length + 1 ≤ 1000000)
    (h : ∀ v' w', Hid (OwX f s e w' B v' (l ++ [x])) → Hid (Below B w0 w') → Hid (B ≤ w'.heap.size) → Hid (w.grownBy w' v.ownBlock) → K (a.put o.dst v') w') :
    if Region.wanted o (yielded ops a.tmps) = true then Oper.wp Tryd.prog o a w K Q else E := by
  have hw : Region.wanted o (yielded ops a.tmps) = true := by simp [Region.wanted, hgd]
  rw [if_pos hw]
  obtain ⟨v', w', hr, h2, h3⟩ := run_appX hu hinfo hz hs0 hby hf h1 o.type B v l hown bn c x cs T' fr hbn hcs hm hB
  unfold Oper.wp execOp
  simp only [ho, resolve, invoke, builtin, Sem.run_bind, Sem.run_pure, Result.andThen_ok, List.map_toArray, List.map_cons, List.map_nil, hs, hx, hr]
  exact h v' w' h2 (hb.grown h3 hB (fun k hk => (World.ownsRow.lt hown k hk).1)) (Nat.le_trans hB h3.size) h3
end Go.Proofs.YtiflieaemgamkaaDoor
