/- facts.Of, in one. Conditions: as in the texts it is made of. -/
import Derived.OrdersHeld
import Derived.Test.YtbjngbacnkmjhaaProg
import Derived.Deep.RegionHeld3
import Derived.Test.YtbjngbacnkmjhaaIMa
import Derived.Deep.DeepCutAuto
import Derived.Test.YtbjngbacnkmjhaaOpa
import Derived.IntWalk
import Derived.Test.YtbjngbacnkmjhaaGQb
namespace Go.Proofs.Ytbjngbacnkmjhaa
open Go

section
variable {P : Program} {ops : Array Oper} {Q : Exit → Act → World → Prop} {md : Region.Mode} {S : Array Bool → World → Prop}

/-- what has come up has not come up ahead of what it waits for -/
def ShutL (md : Region.Mode) (ops : Array Oper) (L : Array Bool) : Prop := ∀ k ok, ops[k]? = some ok → L.getD k false = true → ∀ e ∈ ok.after, Region.binds md e = true → L.getD e.on false = true
/-- whichever order is picked from here on; S of what has come up holds behind each -/
def wpAnyL (P : Program) (md : Region.Mode) (ops : Array Oper) (Q : Exit → Act → World → Prop) (S : Array Bool → World → Prop) : Nat → Array Bool → Act → World → Prop
  | 0, L, a, w => Region.ready md ops L = [] ∧ Q .normal a w
  | f + 1, L, a, w => (Region.ready md ops L = [] → Q .normal a w) ∧
      ∀ i ∈ Region.ready md ops L, wpOp P ops Q i (fun a' w' => S (L.setIfInBounds i true) w' ∧ wpAnyL P md ops Q S f (L.setIfInBounds i true) a' w') a w
theorem wpAny_of_L : ∀ (f : Nat) (L : Array Bool) (a : Act) (w : World), wpAnyL P md ops Q S f L a w → wpAny P md ops Q f L a w
  | 0, _, _, _, h => h
  | f + 1, _, _, _, h => ⟨h.1, fun i hi => wpOp_mono (fun a' w' h' => wpAny_of_L f _ a' w' h'.2) (h.2 i hi)⟩
/-- the worlds in which an operation that has not come up may come up -/
def SI (md : Region.Mode) (ops : Array Oper) (S : Array Bool → World → Prop) (i : Nat) (w : World) : Prop := ∃ L, ShutL md ops L ∧ L.getD i true = false ∧ S L w
theorem getD_set (L : Array Bool) (j k : Nat) (hne : j ≠ k) : (L.setIfInBounds j true).getD k true = L.getD k true := by
  simp [Array.getD_eq_getD_getElem?, hne]
theorem getF_set (L : Array Bool) (j k : Nat) (hne : j ≠ k) : (L.setIfInBounds j true).getD k false = L.getD k false := by
  simp [Array.getD_eq_getD_getElem?, hne]
theorem getF_on (L : Array Bool) (j : Nat) (h : j < L.size) : (L.setIfInBounds j true).getD j false = true := by
  simp [Array.getD_eq_getD_getElem?, h]
theorem ShutL.set {L : Array Bool} (h : ShutL md ops L) {j : Nat} (hj : j ∈ Region.ready md ops L) : ShutL md ops (L.setIfInBounds j true) := by
  intro k ok hk hl e he hb
  obtain ⟨hun, oj, hoj, hall⟩ := mem_ready.1 hj
  have hjs : j < L.size := by
    rcases Nat.lt_or_ge j L.size with h' | h'
    · exact h'
    · simp [Array.getElem?_eq_none h'] at hun
  have step : ∀ m, L.getD m false = true → (L.setIfInBounds j true).getD m false = true := fun m hm => by
    by_cases hjm : j = m
    · subst hjm; exact getF_on L j hjs
    · rw [getF_set L j m hjm]; exact hm
  by_cases hjk : j = k
  · subst hjk
    rw [hoj] at hk
    injection hk with hk
    subst hk
    apply step
    simpa using hall e he hb
  · rw [getF_set L j k hjk] at hl
    exact step _ (h k ok hk hl e he hb)
theorem ShutL.none (n : Nat) : ShutL md ops (Array.replicate n false) := by
  intro k ok _ hl
  simp only [Array.getD_eq_getD_getElem?, Array.getElem?_replicate] at hl
  split at hl <;> cases hl
theorem wpAnyL_first {i : Nat} {oi : Oper} {v : Value} (hi : ops[i]? = some oi) (hsel : ∀ (j : Nat) (o : Oper) cs b, ops[j]? = some o → o.op ≠ .select cs b)
    (hQ : ∀ c a w, Q (.panic c) (a.put oi.dst v) w → Q (.panic c) a w) (hSi : ∀ L w, S (L.setIfInBounds i true) w ↔ S L w) :
    ∀ (f : Nat) (L : Array Bool) (a : Act) (w : World),
      (∀ j oj, ops[j]? = some oj → j ≠ i → L.getD j true = false → (∀ e ∈ oj.after, Region.binds md e = true → e.on ≠ i) → oi.apart ops oj = true) →
      i ∈ Region.ready md ops L → ShutL md ops L → YieldsIf P ops (SI md ops S i) oi v a → S L w →
      wpAnyL P md ops Q S f (L.setIfInBounds i true) (a.put oi.dst v) w → wpAnyL P md ops Q S (f + 1) L a w := by
  intro f
  induction f with
  | zero =>
    intro L a w _ hr hc hy hS H
    refine ⟨fun h => (by rw [h] at hr; cases hr), fun j hj => ?_⟩
    by_cases hji : j = i
    · subst hji; exact hy.wpOp hi ⟨L, hc, (mem_ready.1 hr).1, hS⟩ ⟨(hSi L w).2 hS, H⟩
    · have := ready_mono hj hji
      rw [H.1] at this
      cases this
  | succ f ih =>
    intro L a w hfree hr hc hy hS H
    refine ⟨fun h => (by rw [h] at hr; cases hr), fun j hj => ?_⟩
    by_cases hji : j = i
    · subst hji; exact hy.wpOp hi ⟨L, hc, (mem_ready.1 hr).1, hS⟩ ⟨(hSi L w).2 hS, H⟩
    · have h1 := H.2 j (ready_mono hj hji)
      obtain ⟨hjun, oj, hoj, hall⟩ := mem_ready.1 hj
      have hnot : ∀ e ∈ oj.after, Region.binds md e = true → e.on ≠ i := fun e he hb heq => by
        have h1 := hall e he hb
        have h0 := (mem_ready.1 hr).1
        rw [heq] at h1
        rcases Nat.lt_or_ge i L.size with h' | h'
        · simp [h'] at h0 h1; rw [h0] at h1; cases h1
        · simp [Array.getElem?_eq_none h'] at h1
      have h2 := wpOp_putIf hoj (hfree j oj hoj hji hjun hnot) (fun cs b => hsel i oi cs b hi) (fun cs b => hsel j oj cs b hoj) hQ hy h1
      refine wpOp_mono (fun a' w' h3 => ?_) h2
      have hs3 : S (L.setIfInBounds j true) w' := by
        have q := h3.2.1
        rw [Array.setIfInBounds_comm _ _ (Ne.symm hji)] at q
        exact (hSi _ _).1 q
      refine ⟨hs3, ih (L.setIfInBounds j true) a' w' (fun k ok hk hki hun hno => ?_) (ready_mono hr (Ne.symm hji)) (hc.set hj) h3.1 hs3 ?_⟩
      · refine hfree k ok hk hki ?_ hno
        by_cases hjk : j = k
        · subst hjk; exact hjun
        · rw [getD_set L j k hjk] at hun; exact hun
      · rw [Array.setIfInBounds_comm _ _ hji]
        exact h3.2.2
/-- take number i first -/
theorem wpAnyL_take {i : Nat} {oi : Oper} {v : Value} {f : Nat} {L : Array Bool} {a : Act} {w : World} (hi : ops[i]? = some oi)
    (hs : Region.noSelect ops = true) (hf : Region.free md ops L i = true) (hr : (Region.ready md ops L).contains i = true)
    (hQ : ∀ c a w, Q (.panic c) (a.put oi.dst v) w → Q (.panic c) a w) (hSi : ∀ L w, S (L.setIfInBounds i true) w ↔ S L w) (hc : ShutL md ops L) (hy : YieldsIf P ops (SI md ops S i) oi v a) (hS : S L w)
    (h : ShutL md ops (L.setIfInBounds i true) → S (L.setIfInBounds i true) w → wpAnyL P md ops Q S f (L.setIfInBounds i true) (a.put oi.dst v) w) : wpAnyL P md ops Q S (f + 1) L a w :=
  wpAnyL_first hi (Region.noSelect_spec hs) hQ hSi f L a w (Region.free_spec hi hf) (by simpa using hr) hc hy hS (h (hc.set (by simpa using hr)) ((hSi _ _).2 hS))
/-- whichever of those that may come up comes up -/
theorem wpAnyL_all {rs : List Nat} {f : Nat} {L : Array Bool} {a : Act} {w : World} (hr : Region.ready md ops L = rs) (hne : rs ≠ []) (hc : ShutL md ops L)
    (h : ∀ i ∈ rs, wpOp P ops Q i (fun a' w' => S (L.setIfInBounds i true) w' ∧ (ShutL md ops (L.setIfInBounds i true) → wpAnyL P md ops Q S f (L.setIfInBounds i true) a' w')) a w) : wpAnyL P md ops Q S (f + 1) L a w :=
  ⟨fun h0 => absurd (hr ▸ h0) hne, fun i hi => wpOp_mono (fun _ _ q => ⟨q.1, q.2 (hc.set hi)⟩) (h i (hr ▸ hi))⟩
theorem wpAnyL_done {L : Array Bool} {a : Act} {w : World} (hr : Region.ready md ops L = []) (h : Q .normal a w) : ∀ f, wpAnyL P md ops Q S f L a w
  | 0 => ⟨hr, h⟩
  | _ + 1 => ⟨fun _ => h, by rw [hr]; simp⟩
theorem wp_region_L {id : Nat} {a : Act} {w : World} (hm : P.follows .mixedOrders = true)
    (h : wpAnyL P .any ops Q S ops.size (Array.replicate ops.size false) a { w with drawn := w.drawn + 1 }) : (Code.region id ops true).wp P Q a w :=
  wp_region_any hm (wpAny_of_L _ _ _ _ h)
end
end Go.Proofs.Ytbjngbacnkmjhaa
namespace Go.Proofs.Ytbjngbacnkmjhaa
open Go

section
variable {P : Program} {ops : Array Oper} {Q : Exit → Act → World → Prop} {md : Region.Mode} {S : Array Bool → World → Prop}
def AllReadyL (P : Program) (md : Region.Mode) (ops : Array Oper) (Q : Exit → Act → World → Prop) (S : Array Bool → World → Prop) (fuel : Nat) (L : Array Bool) (a : Act) (w : World) (rs : List Nat) : Prop :=
  ∀ i ∈ rs, wpOp P ops Q i (fun a' w' => S (L.setIfInBounds i true) w' ∧ (ShutL md ops (L.setIfInBounds i true) → wpAnyL P md ops Q S fuel (L.setIfInBounds i true) a' w')) a w
theorem AllReadyL.nil {fuel : Nat} {L : Array Bool} {a : Act} {w : World} : AllReadyL P md ops Q S fuel L a w [] := fun _ h => by cases h
theorem AllReadyL.cons {fuel : Nat} {L : Array Bool} {a : Act} {w : World} {i : Nat} {o : Oper} {rs : List Nat} (ho : ops[i]? = some o)
    (h : ∀ K' : Act → World → Prop, Shut (∀ a w, S (L.setIfInBounds i true) w → (ShutL md ops (L.setIfInBounds i true) → wpAnyL P md ops Q S fuel (L.setIfInBounds i true) a w) → K' a w) → if Region.wanted o (yielded ops a.tmps) = true then Oper.wp P o a w K' Q else K' (a.put o.dst undef) w)
    (hs : AllReadyL P md ops Q S fuel L a w rs) : AllReadyL P md ops Q S fuel L a w (i :: rs) := fun j hj => by
  rcases List.mem_cons.1 hj with rfl | hj
  · exact wpOp_step ho (fun K' hK => h K' (fun a w hS hW => hK a w ⟨hS, hW⟩))
  · exact hs j hj
theorem wpAnyL_ready {rs : List Nat} {fuel : Nat} {L : Array Bool} {a : Act} {w : World} (hr : Region.ready md ops L = rs) (hne : rs ≠ []) (hc : ShutL md ops L)
    (h : AllReadyL P md ops Q S fuel L a w rs) : wpAnyL P md ops Q S (fuel + 1) L a w := wpAnyL_all hr hne hc h
theorem wp_region_L_drew {id : Nat} {a : Act} {w : World} (hm : P.follows .mixedOrders = true) (hS : S (Array.replicate ops.size false) w.drew)
    (h : S (Array.replicate ops.size false) w.drew → ShutL .any ops (Array.replicate ops.size false) → wpAnyL P .any ops Q S ops.size (Array.replicate ops.size false) a w.drew) : (Code.region id ops true).wp P Q a w :=
  wp_region_L hm (h hS (ShutL.none _))
/-- k waits for i, in so many steps -/
def waits (md : Region.Mode) (ops : Array Oper) : Nat → Nat → Nat → Bool
  | 0, _, _ => false
  | f + 1, k, i => match ops[k]? with
    | some o => o.after.toList.any fun e => Region.binds md e && (e.on == i || waits md ops f e.on i)
    | none => false
theorem shut_of {L : Array Bool} (hs : ShutL md ops L) {i : Nat} (hi : L.getD i true = false) : ∀ (f k : Nat), waits md ops f k i = true → L.getD k false = false
  | 0, k, h => by simp [waits] at h
  | f + 1, k, h => by
    cases hk : L.getD k false with
    | false => rfl
    | true =>
      exfalso
      unfold waits at h
      split at h
      · next o ho =>
        obtain ⟨e, he, hb⟩ := List.any_eq_true.1 h
        rw [Bool.and_eq_true, Bool.or_eq_true] at hb
        have h1 := hs k o ho hk e (by simpa using he) hb.1
        rcases hb.2 with q | q
        · have : e.on = i := by simpa using q
          rw [this] at h1
          rw [Array.getD_eq_getD_getElem?] at h1 hi
          cases hq : L[i]? with
          | none => rw [hq] at hi; simp at hi
          | some b => rw [hq] at h1 hi; simp at h1 hi; rw [h1] at hi; cases hi
        · rw [shut_of hs hi f e.on q] at h1; cases h1
      · cases h
end
/-- two cells hold what they hold as long as the stores k1, k2 have not come up -/
structure SO (g1 o1 g2 o2 : Nat) (x1 x2 : Value) (k1 k2 : Nat) (L : Array Bool) (w : World) : Prop where
  one : L.getD k1 false = false → w.cell? ⟨g1, o1, none⟩ = some x1
  two : L.getD k2 false = false → w.cell? ⟨g2, o2, none⟩ = some x2
theorem SO.set {g1 o1 g2 o2 : Nat} {x1 x2 : Value} {k1 k2 i : Nat} (h1 : i ≠ k1) (h2 : i ≠ k2) (L : Array Bool) (w : World) : SO g1 o1 g2 o2 x1 x2 k1 k2 (L.setIfInBounds i true) w ↔ SO g1 o1 g2 o2 x1 x2 k1 k2 L w :=
  ⟨fun h => ⟨fun q => h.one (by rw [getF_set L i k1 h1]; exact q), fun q => h.two (by rw [getF_set L i k2 h2]; exact q)⟩,
   fun h => ⟨fun q => h.one (by rw [getF_set L i k1 h1] at q; exact q), fun q => h.two (by rw [getF_set L i k2 h2] at q; exact q)⟩⟩
end Go.Proofs.Ytbjngbacnkmjhaa
namespace Go.Proofs.Ytbjngbacnkmjhaa
open Go.RowKit Vi

theorem run_appXo {α : Type} {f : α → List Value} {s : Nat} {w : World} {t e : TypeId} {z : Value} {bytes : Nat} (hu : Try.prog.underlying t = some (.slice e)) (hinfo : (Try.prog.info? e).map (fun i => (i.zero, i.size, i.bytes)) = some (some z, s, bytes)) (hz : z.cells.size = s) (hs0 : 0 < s) (hby : bytes ≤ 100)
    (hf : ∀ x, (f x).length = s) (h1 : ∀ x, ∀ u ∈ f x, u.oneCell' = true)
    (ty : TypeId) (base : Nat) (v : Value) (l : List α) (hown : OwX f s e w base v l) (b c : Nat) (x : α) (cs : Array Value) (T' : TypeId) (fr : Nat × Nat) (hb : w.heap[b]? = some (.cells cs T' fr)) (hcs : cs.toList = f x)
    (hm : l.length + 1 ≤ 1000000) (hbase : base ≤ w.heap.size) :
    ∃ v' w', (Builtin.append_ #[t, t] ty #[v, .slice (some ⟨b, 0, none⟩) 1 c]).run Try.prog w = .ok v' w' ∧ OwX f s e w' base v' (l ++ [x]) ∧ w.grownBy w' v.ownBlock ∧ (v'.ownBlock = v.ownBlock ∨ v'.ownBlock = some w.heap.size) := by
  obtain ⟨i0, hi, hz0, hz1, hz2⟩ := info_parts hinfo
  have hmul : (l.length + 1) * bytes ≤ 1000000 * 100 := Nat.mul_le_mul hm hby
  obtain ⟨v', w', hr, h2, h3, _, h5⟩ := run_append_own_at (P := Try.prog) w base t ty e i0 z s bytes hu hi hz0 hz1 hz2 hz hs0 v l.length (flat f l) hown ⟨b, 0, none⟩ 1 c (f x)
    (by rw [hf]; omega) (fun j u hj => by
      rw [Addr.add_lit, Nat.zero_add, cell_of_row _ _ _ _ _ _ hb]
      rw [← hcs] at hj
      simpa using hj) (h1 x) (by unfold maxLen; omega) (by omega) hbase
  refine ⟨v', w', hr, ?_, h3, h5⟩
  unfold OwX
  rw [List.length_append, flat_app, flat_one]
  exact h2
theorem step_appXo {α : Type} {f : α → List Value} {s : Nat} {ops : Array Oper} {o : Oper} {a : Act} {K : Act → World → Prop} {Q : Exit → Act → World → Prop} {E : Prop} {w : World} (hgd : o.guard = none) (sl xo : Operand) (t e : TypeId) (z : Value) (bytes : Nat)
    (ho : o.op = .call { callee := .builtin .append, args := #[sl, xo], argTypes := #[t, t] })
    (hu : Try.prog.underlying t = some (.slice e)) (hinfo : (Try.prog.info? e).map (fun i => (i.zero, i.size, i.bytes)) = some (some z, s, bytes)) (hz : z.cells.size = s) (hs0 : 0 < s) (hby : bytes ≤ 100)
    (hf : ∀ x, (f x).length = s) (h1 : ∀ x, ∀ u ∈ f x, u.oneCell' = true)
    (B : Nat) (w0 : World) (hb : Below B w0 w) (hB : B ≤ w.heap.size) (v : Value) (l : List α) (hs : a.eval sl = v) (hown : OwX f s e w B v l)
    (bn c : Nat) (x : α) (cs : Array Value) (T' : TypeId) (fr : Nat × Nat) (hx : a.eval xo = .slice (some ⟨bn, 0, none⟩) 1 c) (hbn : w.heap[bn]? = some (.cells cs T' fr)) (hcs : cs.toList = f x) (hm : l.length + 1 ≤ 1000000)
    (h : ∀ v' w', Hid (OwX f s e w' B v' (l ++ [x])) → Hid (Below B w0 w') → Hid (w.grownBy w' v.ownBlock) → Hid (v'.ownBlock = v.ownBlock ∨ v'.ownBlock = some w.heap.size) → K (a.put o.dst v') w') :
    if Region.wanted o (yielded ops a.tmps) = true then Oper.wp Try.prog o a w K Q else E := by
  have hw : Region.wanted o (yielded ops a.tmps) = true := by simp [Region.wanted, hgd]
  rw [if_pos hw]
  obtain ⟨v', w', hr, h2, h3, h5⟩ := run_appXo hu hinfo hz hs0 hby hf h1 o.type B v l hown bn c x cs T' fr hbn hcs hm hB
  unfold Oper.wp execOp
  simp only [ho, resolve, invoke, builtin, Sem.run_bind, Sem.run_pure, Result.andThen_ok, List.map_toArray, List.map_cons, List.map_nil, hs, hx, hr]
  exact h v' w' h2 (hb.grown h3 hB (fun k hk => (World.ownsRow.lt hown k hk).1)) h3 h5
theorem OwX.far {α : Type} {f : α → List Value} {s : Nat} {T : TypeId} {w w' : World} {B : Nat} {v : Value} {l : List α} {ob : Option Nat} (h : OwX f s T w B v l) (hg : w.grownBy w' ob) (hn : ∀ b, v.ownBlock = some b → ob ≠ some b) : OwX f s T w' B v l := by
  rcases h with ⟨h1, h | ⟨b, cap, cur, h2, h3, h4, h5⟩⟩
  · exact ⟨h1, .inl h⟩
  · refine ⟨h1, .inr ⟨b, cap, cur, h2, h3, ?_, h5⟩⟩
    rw [hg.block b (lt_of_block h4) (fun e => hn b (by rw [h2]; rfl) (by first | exact e | exact e.symm))]
    exact h4
theorem OwX.blkLt {α : Type} {f : α → List Value} {s : Nat} {T : TypeId} {w : World} {B : Nat} {v : Value} {l : List α} (h : OwX f s T w B v l) {b : Nat} (hb : v.ownBlock = some b) : b < w.heap.size ∧ ∃ cs, w.heap[b]? = some (.cells cs T (0, 0)) := by
  rcases h with ⟨h1, h | ⟨g, cap, cur, h2, h3, h4, h5⟩⟩
  · rw [h.1] at hb; simp [Value.ownBlock] at hb
  · rw [h2] at hb
    simp [Value.ownBlock] at hb
    subst hb
    exact ⟨lt_of_block h4, _, h4⟩
def svR (vs : Nat → Value) : Array Value := #[vs 0, vs 1, vs 2, vs 3, vs 4, vs 5, vs 6]
/-- the facts of a graph by their kinds -/
structure Sv (B base : Nat) (vs : Nat → Value) (Ls : Nat → List Fc) (w : World) : Prop where
  box : w.heap[B]? = some (.cells (svR vs) 180 (0, 0))
  own : ∀ i, i < 7 → OwX fcC 4 178 w base (vs i) (Ls i)
  far : ∀ i j, i < 7 → j < 7 → i ≠ j → ∀ b, (vs i).ownBlock = some b → (vs j).ownBlock ≠ some b
theorem Sv.kept {B base : Nat} {vs : Nat → Value} {Ls : Nat → List Fc} {w w' : World} (h : Sv B base vs Ls w) (hb : Below w.heap.size w w') : Sv B base vs Ls w' := ⟨blk_below h.box hb, fun i hi => (h.own i hi).kept hb, h.far⟩
/-- what is no fact and no such array stays -/
structure Kp (B : Nat) (w w' : World) : Prop where
  size : w.heap.size ≤ w'.heap.size
  blk : ∀ b cs T fr, w.heap[b]? = some (.cells cs T fr) → T ≠ 178 → b ≠ B → w'.heap[b]? = some (.cells cs T fr)
theorem Kp.refl (B : Nat) (w : World) : Kp B w w := ⟨Nat.le_refl _, fun _ _ _ _ h _ _ => h⟩
theorem Kp.trans {B : Nat} {a b c : World} (h : Kp B a b) (k : Kp B b c) : Kp B a c := ⟨Nat.le_trans h.size k.size, fun q cs T fr h1 h2 h3 => k.blk q cs T fr (h.blk q cs T fr h1 h2 h3) h2 h3⟩
theorem Kp.of_below {B : Nat} {w w' : World} (h : Below w.heap.size w w') : Kp B w w' := ⟨h.size, fun _ _ _ _ h1 _ _ => blk_below h1 h⟩
theorem svR_at (vs : Nat → Value) (k : Nat) (hk : k < 7) : (svR vs)[k]? = some (vs k) := by
  have : k = 0 ∨ k = 1 ∨ k = 2 ∨ k = 3 ∨ k = 4 ∨ k = 5 ∨ k = 6 := by omega
  rcases this with rfl | rfl | rfl | rfl | rfl | rfl | rfl <;> rfl
theorem svR_set (vs : Nat → Value) (k : Nat) (v : Value) (hk : k < 7) : (svR vs).setIfInBounds k v = svR (fun i => if i = k then v else vs i) := by
  have : k = 0 ∨ k = 1 ∨ k = 2 ∨ k = 3 ∨ k = 4 ∨ k = 5 ∨ k = 6 := by omega
  rcases this with rfl | rfl | rfl | rfl | rfl | rfl | rfl <;> rfl
def AddsP (B base k : Nat) (Ls : Nat → List Fc) (f : Fc) (V w : World) (e : Ending) (w' : World) : Prop := e = .returned (.tuple #[]) ∧ ∃ vs', Sv B base vs' (fun i => if i = k then Ls i ++ [f] else Ls i) w' ∧ Kp B w w' ∧ Below base V w'
theorem kkF {w W : World} {B g : Nat} {v : Value} {l : List Fc} {cs : Array Value} {fr : Nat × Nat} (h : OwX fcC 4 178 w B v l) (k : KK [g] w W) (hg : w.heap[g]? = some (.cells cs 180 fr)) : OwX fcC 4 178 W B v l := by
  rcases h with ⟨h1, h | ⟨b, cap, cur, h2, h3, h4, h5⟩⟩
  · exact ⟨h1, .inl h⟩
  · exact ⟨h1, .inr ⟨b, cap, cur, h2, h3, k.blk h4 (fun e => by
      have e1 : b = g := by simpa using e
      subst e1
      rw [hg] at h4
      cases h4), h5⟩⟩
/-- a fact comes to the row of its kind -/
theorem Sv.add {B base k : Nat} {vs : Nat → Value} {Ls : Nat → List Fc} {f : Fc} {v' : Value} {V w w' : World} (h : Sv B base vs Ls w) (hk : k < 7) (hB : base ≤ B) (ho : OwX fcC 4 178 w' base v' (Ls k ++ [f])) (hb : Below base V w') (hg : w.grownBy w' (vs k).ownBlock) (ha : v'.ownBlock = (vs k).ownBlock ∨ v'.ownBlock = some w.heap.size) :
    Sv B base (fun i => if i = k then v' else vs i) (fun i => if i = k then Ls i ++ [f] else Ls i) (w'.setCell ⟨B, k, none⟩ v') ∧ Kp B w (w'.setCell ⟨B, k, none⟩ v') ∧ Below base V (w'.setCell ⟨B, k, none⟩ v') := by
  have hbx := (h.own k hk).box hg h.box (Or.inl (by decide))
  have kk : KK [B] w' (w'.setCell ⟨B, k, none⟩ v') := (KK.refl [B] w').set (b := B) (by simp) k v'
  have hgk : ∀ b cs T fr, w.heap[b]? = some (Obj.cells cs T fr) → T ≠ 178 → w'.heap[b]? = some (Obj.cells cs T fr) := fun b cs T fr h1 h2 => (h.own k hk).box hg h1 (Or.inl h2)
  refine ⟨⟨?_, ?_, ?_⟩, ⟨Nat.le_trans hg.size kk.size, fun b cs T fr h1 h2 h3 => kk.blk (hgk b cs T fr h1 h2) (by simpa using h3)⟩, ?_⟩
  · have q := heap_setCell_at (i := k) (u := v') hbx
    rw [← svR_set vs k v' hk]
    exact q
  · intro i hi
    by_cases hik : i = k
    · subst hik
      simp only [if_true]
      exact kkF ho kk hbx
    · simp only [hik, if_false]
      exact kkF ((h.own i hi).far hg (fun b h1 h2 => h.far i k hi hk hik b h1 h2)) kk hbx
  · intro i j hi hj hij b h1 h2
    by_cases hik : i = k
    · by_cases hjk : j = k
      · omega
      · simp only [hik, if_true] at h1
        simp only [hjk, if_false] at h2
        rcases ha with ha | ha
        · rw [ha] at h1; exact h.far k j hk hj (by omega) b h1 h2
        · rw [ha] at h1; injection h1 with h1; have := ((h.own j hj).blkLt h2).1; omega
    · simp only [hik, if_false] at h1
      by_cases hjk : j = k
      · simp only [hjk, if_true] at h2
        rcases ha with ha | ha
        · rw [ha] at h2; exact h.far i k hi hk hik b h1 h2
        · rw [ha] at h2; injection h2 with h2; have := ((h.own i hi).blkLt h1).1; omega
      · simp only [hjk, if_false] at h2
        exact h.far i j hi hj hij b h1 h2
  · exact kk.below hb (by simp; omega) (by have := lt_of_block hbx; omega)
structure SA (X B k : Nat) (xo : Obj) (u : Value) (L : Array Bool) (W : World) : Prop where
  x : W.heap[X]? = some xo
  c : L.getD 14 false = false → W.cell? ⟨B, k, none⟩ = some u
theorem SA.set {X B k : Nat} {xo : Obj} {u : Value} {i : Nat} (h1 : i ≠ 14) (L : Array Bool) (w : World) : SA X B k xo u (L.setIfInBounds i true) w ↔ SA X B k xo u L w :=
  ⟨fun h => ⟨h.x, fun q => h.c (by rw [getF_set L i 14 h1]; exact q)⟩, fun h => ⟨h.x, fun q => h.c (by rw [getF_set L i 14 h1] at q; exact q)⟩⟩
theorem SA.xOf {md : Region.Mode} {ops : Array Oper} {X B k i : Nat} {xo : Obj} {u : Value} {w : World} (h : SI md ops (SA X B k xo u) i w) : w.heap[X]? = some xo := by
  obtain ⟨L, _, _, hS⟩ := h
  exact hS.x
theorem SA.cOf {md : Region.Mode} {ops : Array Oper} {X B k i : Nat} {xo : Obj} {u : Value} {w : World} (h : SI md ops (SA X B k xo u) i w) (f : Nat) (hw : waits md ops f 14 i = true) : w.cell? ⟨B, k, none⟩ = some u := by
  obtain ⟨L, hs, hi, hS⟩ := h
  exact hS.c (shut_of hs hi f 14 hw)
set_option maxRecDepth 100000 in
set_option maxHeartbeats 4000000 in
theorem fadd_any (B base k : Nat) (vs : Nat → Value) (Ls : Nat → List Fc) (i s t : ByteArray) (V w : World) (h : Sv B base vs Ls w) (hV : Below base V w) (hB : base ≤ B) (hk : k < 7) (hl : (Ls k).length + 1 ≤ 1000000) :
    Calls Try.prog 128 #[.pointer (some ⟨B, 0, none⟩), .agg #[.int .i64 (k : Int), .string i, .string s, .string t]] w (AddsP B base k Ls ((k : Int), i, s, t) V w) := by
  have hBl := lt_of_block h.box
  have HS := Lib.hid (h.kept ((Below.refl w.heap.size w).alloc (Nat.le_refl _) (.cells #[.int .i64 (k : Int), .string i, .string s, .string t] 178 (0, 0))))
  have HX := Lib.hid (blk_new w (.cells #[.int .i64 (k : Int), .string i, .string s, .string t] 178 (0, 0)))
  have HV := Lib.hid (hV.alloc (by omega) (.cells #[.int .i64 (k : Int), .string i, .string s, .string t] 178 (0, 0)))
  have HK := Lib.hid (Kp.of_below (B := B) ((Below.refl w.heap.size w).alloc (Nat.le_refl _) (.cells #[.int .i64 (k : Int), .string i, .string s, .string t] 178 (0, 0))))
  have hk0 : (0 : Int) ≤ (k : Int) := by omega
  have hk7 : (k : Int) < 7 := by omega
  have HLT := Lib.hid (fun b (hb : (vs k).ownBlock = some b) => ((h.own k hk).blkLt hb).1)
  clear h hV
  go_enter Try.func128, Try.ntmps128
  go_upto_region 1 with (fail)
  obtain ⟨v, hv⟩ : ∃ v, v = w.alloc (.cells #[.int .i64 (k : Int), .string i, .string s, .string t] 178 (0, 0)) := ⟨_, rfl⟩
  rw [← hv] at HS HX HV HK
  rw [← hv]
  clear hv
  have hXl := lt_of_block HX.out
  have hne : ¬ w.heap.size = B := by omega
  have HS1 := Lib.hid (HS.out.kept ((Below.refl v.heap.size v).drew.alloc (Nat.le_refl _) (.cells #[.int .i64 (k : Int), .string i, .string s, .string t] 178 (0, 0))))
  have HV1 := Lib.hid (HV.out.drew.alloc (by show base ≤ v.heap.size; omega) (.cells #[.int .i64 (k : Int), .string i, .string s, .string t] 178 (0, 0)))
  have HK1 := Lib.hid (HK.out.trans (Kp.of_below ((Below.refl v.heap.size v).drew.alloc (Nat.le_refl _) (.cells #[.int .i64 (k : Int), .string i, .string s, .string t] 178 (0, 0)))))
  have HX1 := Lib.hid (blk_alloc (show v.drew.heap[w.heap.size]? = _ from HX.out) (.cells #[.int .i64 (k : Int), .string i, .string s, .string t] 178 (0, 0)))
  refine wp_region_L_drew (S := SA w.heap.size B k (.cells #[.int .i64 (k : Int), .string i, .string s, .string t] 178 (0, 0)) (vs k)) (by kernel_rfl) ⟨HX.out, fun _ => (cell_of_row _ _ _ _ _ _ HS.out.box).trans (svR_at vs k hk)⟩ (fun hS hC => ?_)
  refine wpAnyL_take (i := 0) (oi := { dst := some 4, op := .move (.tmp 0), type := _, pos := _, after := _, guard := none }) (v := ?_) rfl (by kernel_rfl) (by kernel_rfl) (by kernel_rfl) (fun _ _ _ h => h) (SA.set (by decide)) hC (Or.inl ⟨by rfl, ?_⟩) hS (fun hC hS => ?_)
  rotate_left
  · intro W9 hSw; skip; go_simp; try (with_reducible rfl)
  try simp only [Act.put, List.setIfInBounds_toArray, List.set_cons_zero, List.set_cons_succ]
  refine wpAnyL_take (i := 1) (oi := { dst := some 5, op := .fieldAddr 178 (.tmp 3) 0, type := _, pos := _, after := _, guard := none }) (v := ?_) rfl (by kernel_rfl) (by kernel_rfl) (by kernel_rfl) (fun _ _ _ h => h) (SA.set (by decide)) hC (Or.inl ⟨by rfl, ?_⟩) hS (fun hC hS => ?_)
  rotate_left
  · intro W9 hSw; skip; go_simp; try (with_reducible rfl)
  try simp only [Act.put, List.setIfInBounds_toArray, List.set_cons_zero, List.set_cons_succ]
  refine wpAnyL_take (i := 2) (oi := { dst := some 6, op := .load 3 (.tmp 5), type := _, pos := _, after := _, guard := none }) (v := ?_) rfl (by kernel_rfl) (by kernel_rfl) (by kernel_rfl) (fun _ _ _ h => h) (SA.set (by decide)) hC (Or.inl ⟨by rfl, ?_⟩) hS (fun hC hS => ?_)
  rotate_left
  · intro W9 hSw; have q0 := (cell_of_row _ _ 0 _ _ _ (SA.xOf hSw)).trans rfl; go_simp; try (with_reducible rfl)
  try simp only [Act.put, List.setIfInBounds_toArray, List.set_cons_zero, List.set_cons_succ]
  refine wpAnyL_take (i := 3) (oi := { dst := some 7, op := .move (.tmp 0), type := _, pos := _, after := _, guard := none }) (v := ?_) rfl (by kernel_rfl) (by kernel_rfl) (by kernel_rfl) (fun _ _ _ h => h) (SA.set (by decide)) hC (Or.inl ⟨by rfl, ?_⟩) hS (fun hC hS => ?_)
  rotate_left
  · intro W9 hSw; skip; go_simp; try (with_reducible rfl)
  try simp only [Act.put, List.setIfInBounds_toArray, List.set_cons_zero, List.set_cons_succ]
  refine wpAnyL_take (i := 4) (oi := { dst := some 8, op := .fieldAddr 178 (.tmp 3) 0, type := _, pos := _, after := _, guard := none }) (v := ?_) rfl (by kernel_rfl) (by kernel_rfl) (by kernel_rfl) (fun _ _ _ h => h) (SA.set (by decide)) hC (Or.inl ⟨by rfl, ?_⟩) hS (fun hC hS => ?_)
  rotate_left
  · intro W9 hSw; skip; go_simp; try (with_reducible rfl)
  try simp only [Act.put, List.setIfInBounds_toArray, List.set_cons_zero, List.set_cons_succ]
  refine wpAnyL_take (i := 5) (oi := { dst := some 9, op := .load 3 (.tmp 8), type := _, pos := _, after := _, guard := none }) (v := ?_) rfl (by kernel_rfl) (by kernel_rfl) (by kernel_rfl) (fun _ _ _ h => h) (SA.set (by decide)) hC (Or.inl ⟨by rfl, ?_⟩) hS (fun hC hS => ?_)
  rotate_left
  · intro W9 hSw; have q0 := (cell_of_row _ _ 0 _ _ _ (SA.xOf hSw)).trans rfl; go_simp; try (with_reducible rfl)
  try simp only [Act.put, List.setIfInBounds_toArray, List.set_cons_zero, List.set_cons_succ]
  refine wpAnyL_take (i := 6) (oi := { dst := some 10, op := .nilCheck (.tmp 7), type := _, pos := _, after := _, guard := none }) (v := ?_) rfl (by kernel_rfl) (by kernel_rfl) (by kernel_rfl) (fun _ _ _ h => h) (SA.set (by decide)) hC (Or.inl ⟨by rfl, ?_⟩) hS (fun hC hS => ?_)
  rotate_left
  · intro W9 hSw; skip; go_simp; try (with_reducible rfl)
  try simp only [Act.put, List.setIfInBounds_toArray, List.set_cons_zero, List.set_cons_succ]
  refine wpAnyL_take (i := 7) (oi := { dst := some 11, op := .indexAddr 180 (.tmp 10) (.tmp 9), type := _, pos := _, after := _, guard := none }) (v := ?_) rfl (by kernel_rfl) (by kernel_rfl) (by kernel_rfl) (fun _ _ _ h => h) (SA.set (by decide)) hC (Or.inl ⟨by rfl, ?_⟩) hS (fun hC hS => ?_)
  rotate_left
  · intro W9 hSw; skip; go_simp; try (with_reducible rfl)
  try simp only [Act.put, List.setIfInBounds_toArray, List.set_cons_zero, List.set_cons_succ]
  refine wpAnyL_take (i := 8) (oi := { dst := some 12, op := .load 71 (.tmp 11), type := _, pos := _, after := _, guard := none }) (v := ?_) rfl (by kernel_rfl) (by kernel_rfl) (by kernel_rfl) (fun _ _ _ h => h) (SA.set (by decide)) hC (Or.inl ⟨by rfl, ?_⟩) hS (fun hC hS => ?_)
  rotate_left
  · intro W9 hSw; have q0 := SA.cOf hSw 6 (by kernel_rfl); go_simp; try (with_reducible rfl)
  try simp only [Act.put, List.setIfInBounds_toArray, List.set_cons_zero, List.set_cons_succ]
  refine wpAnyL_take (i := 9) (oi := { dst := some 13, op := .load 178 (.tmp 3), type := _, pos := _, after := _, guard := none }) (v := ?_) rfl (by kernel_rfl) (by kernel_rfl) (by kernel_rfl) (fun _ _ _ h => h) (SA.set (by decide)) hC (Or.inl ⟨by rfl, ?_⟩) hS (fun hC hS => ?_)
  rotate_left
  · intro W9 hSw; have q0 := (cell_of_row _ _ 0 _ _ _ (SA.xOf hSw)).trans rfl; have q1 := (cell_of_row _ _ 1 _ _ _ (SA.xOf hSw)).trans rfl; have q2 := (cell_of_row _ _ 2 _ _ _ (SA.xOf hSw)).trans rfl; have q3 := (cell_of_row _ _ 3 _ _ _ (SA.xOf hSw)).trans rfl; go_simp; try (with_reducible rfl)
  try simp only [Act.put, List.setIfInBounds_toArray, List.set_cons_zero, List.set_cons_succ]
  refine wpAnyL_take (i := 12) (oi := { dst := some 16, op := .nilCheck (.tmp 4), type := _, pos := _, after := _, guard := none }) (v := ?_) rfl (by kernel_rfl) (by kernel_rfl) (by kernel_rfl) (fun _ _ _ h => h) (SA.set (by decide)) hC (Or.inl ⟨by rfl, ?_⟩) hS (fun hC hS => ?_)
  rotate_left
  · intro W9 hSw; skip; go_simp; try (with_reducible rfl)
  try simp only [Act.put, List.setIfInBounds_toArray, List.set_cons_zero, List.set_cons_succ]
  refine wpAnyL_ready (rs := [10]) (by kernel_rfl) (by simp) hC ?_
  refine AllReadyL.cons (o := { dst := some 14, op := .buildSlice 71 1 #[(0, .tmp 13)], type := _, pos := _, after := _, guard := none }) rfl (fun K9 hK => ?_) ?_
  · skip
    go_simp
    refine hK _ _ ⟨HX1.out, fun _ => (cell_of_row _ _ _ _ _ _ HS1.out.box).trans (svR_at vs k hk)⟩ (fun hC => ?_)
    clear hK K9
    try simp only [Act.put, List.setIfInBounds_toArray, List.set_cons_zero, List.set_cons_succ]
    refine wpAnyL_ready (rs := [11]) (by kernel_rfl) (by simp) hC ?_
    refine AllReadyL.cons (o := { dst := some 15, op := .call { callee := .builtin .append, args := #[.tmp 12, .tmp 14], argTypes := #[71, 71] }, type := _, pos := _, after := _, guard := none }) rfl (fun K9 hK => ?_) ?_
    · skip
      refine step_appXo rfl (.tmp 12) (.tmp 14) 71 178 _ 56 rfl Try.underlying71 info_fcB rfl (by omega) (by omega) fcC_len fcC_one base V HV1.out (by simp; omega) (vs k) (Ls k) rfl (HS1.out.own k hk) v.heap.size 1 ((k : Int), i, s, t) #[.int .i64 (k : Int), .string i, .string s, .string t] 178 (0, 0) rfl (heap_alloc_new v _) rfl hl ?_
      intro v7 w7 HO7 HB7 HG7 HA7
      have HX7 : Hid (w7.heap[w.heap.size]? = some (.cells #[.int .i64 (k : Int), .string i, .string s, .string t] 178 (0, 0))) := Lib.hid ((HG7.out.block w.heap.size (by simp; omega) (fun e => by have := HLT.out _ e.symm; omega)).trans HX1.out)
      have HBX := Lib.hid ((HS1.out.own k hk).box HG7.out HS1.out.box (Or.inl (by decide)))
      have z7 : w7.frozen? ⟨B, k, none⟩ = false := frozen_of_row _ _ _ _ _ HBX.out
      have q7 : w7.cell? ⟨B, k, none⟩ = some (vs k) := (cell_of_row _ _ _ _ _ _ HBX.out).trans (svR_at vs k hk)
      obtain ⟨A7, n7, c7, rfl⟩ := HO7.out.sl3
      refine hK _ _ ⟨HX7.out, fun _ => q7⟩ (fun hC => ?_)
      clear hK K9
      try simp only [Act.put, List.setIfInBounds_toArray, List.set_cons_zero, List.set_cons_succ]
      refine wpAnyL_take (i := 13) (oi := { dst := some 17, op := .indexAddr 180 (.tmp 16) (.tmp 6), type := _, pos := _, after := _, guard := none }) (v := ?_) rfl (by kernel_rfl) (by kernel_rfl) (by kernel_rfl) (fun _ _ _ h => h) (SA.set (by decide)) hC (Or.inl ⟨by rfl, ?_⟩) ⟨HX7.out, fun _ => q7⟩ (fun hC hS => ?_)
      rotate_left
      · intro W9 hSw; skip; go_simp; try (with_reducible rfl)
      try simp only [Act.put, List.setIfInBounds_toArray, List.set_cons_zero, List.set_cons_succ]
      refine wpAnyL_ready (rs := [14]) (by kernel_rfl) (by simp) hC ?_
      refine AllReadyL.cons (o := { dst := none, op := .store 71 (.tmp 17) (.tmp 15), type := _, pos := _, after := _, guard := none }) rfl (fun K9 hK => ?_) ?_
      · skip
        go_simp
        have HX8 : Hid ((w7.setCell ⟨B, k, none⟩ (.slice A7 n7 c7)).heap[w.heap.size]? = some (.cells #[.int .i64 (k : Int), .string i, .string s, .string t] 178 (0, 0))) := Lib.hid (by rw [Below.heap_setCell _ _ _ _ (by show w.heap.size ≠ B; omega)]; exact HX7.out)
        refine hK _ _ ⟨HX8.out, fun q => absurd q (by decide)⟩ (fun hC => ?_)
        clear hK K9
        try simp only [Act.put, List.setIfInBounds_toArray, List.set_cons_zero, List.set_cons_succ]
        refine wpAnyL_done (by kernel_rfl) ?_ _
        have HR := Lib.hid (HS1.out.add hk hB HO7.out HB7.out HG7.out HA7.out)
        refine bodyPost_ret (v := .tuple #[]) (by simp [results, Try.results128, go_sem]) rfl ?_
        exact ⟨rfl, _, HR.out.1, HK1.out.trans HR.out.2.1, HR.out.2.2⟩
      exact AllReadyL.nil
    exact AllReadyL.nil
  exact AllReadyL.nil
end Go.Proofs.Ytbjngbacnkmjhaa
namespace Go.Proofs.Ytbjngbacnkmjhaa
open Go.RowKit Vi

def addL (k : Nat) (fs : List Fc) (Ls : Nat → List Fc) : Nat → List Fc := fun i => if i = k then Ls i ++ fs else Ls i
theorem addL_snoc (k : Nat) (fs : List Fc) (f : Fc) (Ls : Nat → List Fc) : (fun i => if i = k then addL k fs Ls i ++ [f] else addL k fs Ls i) = addL k (fs ++ [f]) Ls := by
  funext i
  unfold addL
  by_cases h : i = k
  · simp [h]
  · simp [h]
theorem addL_nil (k : Nat) (Ls : Nat → List Fc) : addL k [] Ls = Ls := by
  funext i
  unfold addL
  split <;> simp
theorem addL_len (k : Nat) (fs : List Fc) (Ls : Nat → List Fc) (i : Nat) : (addL k fs Ls i).length ≤ (Ls i).length + fs.length := by
  unfold addL
  split <;> simp
def lF (k : Nat) (id : ByteArray) (s : ByteArray) : Fc := ((k : Int), id, s, ⟨#[]⟩)
def pF (k : Nat) (id : ByteArray) (p : Pr) : Fc := ((k : Int), id, p.1, vput p.2.1 p.2.2.1 p.2.2.2)
theorem Sv.le {B base : Nat} {vs : Nat → Value} {Ls Ms : Nat → List Fc} {w : World} (h : Sv B base vs Ls w) (e : Ls = Ms) : Sv B base vs Ms w := e ▸ h
def PartsP (B base : Nat) (Ls : Nat → List Fc) (V w : World) (e : Ending) (w' : World) : Prop := e = .returned (.tuple #[]) ∧ ∃ vs', Sv B base vs' Ls w' ∧ Kp B w w' ∧ Below base V w'
set_option maxRecDepth 100000 in
set_option maxHeartbeats 4000000 in
theorem fparts_any (B lb pr : Nat) (vs : Nat → Value) (Ls : Nat → List Fc) (id : ByteArray) (A A2 : Option Addr) (n c n2 c2 : Nat) (ss : List ByteArray) (ps : List Pr) (V w : World) (hL : LP V A n ss A2 n2 ps) (hs : Sm ss ps) (h : Sv B V.heap.size vs Ls w) (hV : Below V.heap.size V w) (hB : V.heap.size ≤ B) (h1 : lb < 7) (h2 : pr < 7) (hl : ∀ i, (Ls i).length ≤ 500000) :
    Calls Try.prog 129 #[.pointer (some ⟨B, 0, none⟩), .string id, .int .i64 (lb : Int), .slice A n c, .int .i64 (pr : Int), .slice A2 n2 c2] w (PartsP B V.heap.size (addL pr (ps.map (pF pr id)) (addL lb (ss.map (lF lb id)) Ls)) V w) := by
  have HL := Lib.hid hL
  have HN := Lib.hid hL.l.1
  have HN2 := Lib.hid hL.p.1
  have HP := Lib.hid hs.p
  have hn8 : n ≤ 8 := by rw [← hL.l.1]; exact hs.l
  have hm8 : n2 ≤ 8 := by rw [← hL.p.1]; exact hs.pl
  have HS := Lib.hid h
  have HV := Lib.hid hV
  have HLL := Lib.hid hl
  clear hL hs h hV hl
  go_enter Try.func129, Try.ntmps129
  go_wp2_with fail
  go_loopw [20] (fun i wr => ∃ (k : Nat) (us : Nat → Value), i = .int .i64 (k : Int) ∧ k ≤ n ∧ Sv B V.heap.size us (addL lb ((ss.take k).map (lF lb id)) Ls) wr ∧ Kp B w wr ∧ Below V.heap.size V wr) (fun i _ => n - (intOf i).toNat)
  case atStart => exact ⟨0, vs, rfl, Nat.zero_le _, HS.out.le (by rw [List.take_zero]; exact (addL_nil _ _).symm), Kp.refl _ _, HV.out⟩
  case round =>
    obtain ⟨k, us, rfl, hk, hsv, hkp, hb⟩ := hrel
    have HSV := Lib.hid hsv
    have HKP := Lib.hid hkp
    have HB := Lib.hid hb
    clear hsv hkp hb
    by_cases hlt : k < n
    · have hd1 : decide ((k : Int) < (n : Int)) = true := decide_eq_true (by omega)
      have hi0 : (0 : Int) ≤ (k : Int) := by omega
      have hkl : k < ss.length := by rw [HN.out]; exact hlt
      obtain ⟨b, off, rfl, hc⟩ := (HL.out.l.later HB.out).2 (by omega)
      have hc1 := hc k hkl
      have HTA := Lib.hid (show (ss.take (k + 1)).map (lF lb id) = (ss.take k).map (lF lb id) ++ [lF lb id ss[k]] by rw [List.take_succ_eq_append_getElem hkl, List.map_append]; rfl)
      have HLE := Lib.hid (show (addL lb ((ss.take k).map (lF lb id)) Ls lb).length + 1 ≤ 1000000 by
        have q1 := addL_len lb ((ss.take k).map (lF lb id)) Ls lb
        have q2 := HLL.out lb
        rw [List.length_map, List.length_take] at q1
        omega)
      obtain ⟨s, hs⟩ : ∃ s, s = ss[k] := ⟨_, rfl⟩
      rw [← hs] at hc1 HTA
      clear hs hc
      have HA := Lib.hid (fadd_any B V.heap.size lb us _ id s ⟨#[]⟩ V wr HSV.out HB.out hB h1 HLE.out)
      go_wp2_with fail
      clear hc1
      refine HA.out.mono ?_
      rintro e w2 ⟨rfl, vs2, hsv, hkp, hb⟩
      have HSV2 := Lib.hid hsv
      have HKP2 := Lib.hid (HKP.out.trans hkp)
      have HB2 := Lib.hid hb
      clear hsv hkp hb
      go_wp2_with fail
      go_roundw
      case rel => exact ⟨k + 1, vs2, by go_num, by omega, HSV2.out.le (by rw [HTA.out, ← addL_snoc]; rfl), HKP2.out, HB2.out⟩
      case measure => simp [intOf] <;> omega
    · have hd1 : decide ((k : Int) < (n : Int)) = false := decide_eq_false (by omega)
      have HE := Lib.hid (show ss.take k = ss from List.take_of_length_le (by rw [HN.out]; omega))
      rw [HE.out] at HSV
      obtain ⟨Ms, hMs⟩ : ∃ Ms, Ms = addL lb (ss.map (lF lb id)) Ls := ⟨_, rfl⟩
      have HLM := Lib.hid (show ∀ i, (Ms i).length ≤ 500008 from fun i => by
        have q1 := addL_len lb (ss.map (lF lb id)) Ls i
        have q2 := HLL.out i
        rw [List.length_map, HN.out, ← hMs] at q1
        omega)
      rw [← hMs] at HSV
      have HMS := Lib.hid hMs
      clear hMs HE HLL
      go_wp2_with fail
      clear hd1
      go_loopw [33] (fun i wr => ∃ (k : Nat) (us : Nat → Value), i = .int .i64 (k : Int) ∧ k ≤ n2 ∧ Sv B V.heap.size us (addL pr ((ps.take k).map (pF pr id)) Ms) wr ∧ Kp B w wr ∧ Below V.heap.size V wr) (fun i _ => n2 - (intOf i).toNat)
      case atStart => exact ⟨0, us, rfl, Nat.zero_le _, HSV.out.le (by rw [List.take_zero]; exact (addL_nil _ _).symm), HKP.out, HB.out⟩
      case round =>
        clear hlt hk HSV HKP HB
        obtain ⟨k, us, rfl, hk, hsv, hkp, hb⟩ := hrel
        have HSV := Lib.hid hsv
        have HKP := Lib.hid hkp
        have HB := Lib.hid hb
        clear hsv hkp hb
        by_cases hlt : k < n2
        · have hd1 : decide ((k : Int) < (n2 : Int)) = true := decide_eq_true (by omega)
          have hi0 : (0 : Int) ≤ (k : Int) := by omega
          obtain ⟨b, off, hkl, rfl, hbb, _⟩ := (HL.out.p.below HB.out).at hlt
          obtain ⟨x, hx⟩ : ∃ x, x = ps[k] := ⟨_, rfl⟩
          have HX := Lib.hid (show ps[k]? = some x by rw [List.getElem?_eq_getElem hkl, hx])
          have HTA := Lib.hid (show (ps.take (k + 1)).map (pF pr id) = (ps.take k).map (pF pr id) ++ [pF pr id x] by rw [List.take_succ_eq_append_getElem hkl, List.map_append, hx]; rfl)
          have HLE := Lib.hid (show (addL pr ((ps.take k).map (pF pr id)) Ms pr).length + 1 ≤ 1000000 by
            have q1 := addL_len pr ((ps.take k).map (pF pr id)) Ms pr
            have q2 := HLM.out pr
            rw [List.length_map, List.length_take] at q1
            omega)
          obtain ⟨_, z2, z3, z4⟩ := HP.out x (by rw [hx]; exact List.getElem_mem hkl)
          obtain ⟨s, a, d, t⟩ := x
          have HVP := Lib.hid (fun W : World => vput_any a d t W z3 z4 (by have : t.size ≤ 64 := z2; omega))
          unfold VPut at HVP
          obtain ⟨u, hu⟩ : ∃ u, u = vput a d t := ⟨_, rfl⟩
          have HU := Lib.hid hu
          rw [← hu] at HVP
          obtain ⟨z, hz⟩ : ∃ z, z = errV a d t := ⟨_, rfl⟩
          rw [← hz] at HVP
          clear hx z2 z3 z4 hu hz hbb
          have hc0 : wr.cell? ⟨b, off + k * 4, none⟩ = some (.string s) := (HL.out.p.below HB.out).cellAt HX.out hlt 0 _ rfl
          have hc1 : wr.cell? ⟨b, off + k * 4 + 1, none⟩ = some (.int .i64 a) := (HL.out.p.below HB.out).cellAt HX.out hlt 1 _ rfl
          have hc2 : wr.cell? ⟨b, off + k * 4 + 2, none⟩ = some (.int .i64 d) := (HL.out.p.below HB.out).cellAt HX.out hlt 2 _ rfl
          have hc3 : wr.cell? ⟨b, off + k * 4 + 3, none⟩ = some (.string t) := (HL.out.p.below HB.out).cellAt HX.out hlt 3 _ rfl
          have HF := Lib.hid (blk_new wr (.cells #[.string s, .int .i64 a, .int .i64 d, .string t] 187 (0, 0)))
          have HBN := Lib.hid ((Below.refl wr.heap.size wr).alloc (Nat.le_refl _) (.cells #[.string s, .int .i64 a, .int .i64 d, .string t] 187 (0, 0)))
          have y0 : (wr.alloc (.cells #[.string s, .int .i64 a, .int .i64 d, .string t] 187 (0, 0))).cell? ⟨wr.heap.size, 0, none⟩ = some (.string s) := by rw [cell_of_row _ _ _ _ _ _ HF.out]; rfl
          have y1 : (wr.alloc (.cells #[.string s, .int .i64 a, .int .i64 d, .string t] 187 (0, 0))).cell? ⟨wr.heap.size, 1, none⟩ = some (.int .i64 a) := by rw [cell_of_row _ _ _ _ _ _ HF.out]; rfl
          have y2 : (wr.alloc (.cells #[.string s, .int .i64 a, .int .i64 d, .string t] 187 (0, 0))).cell? ⟨wr.heap.size, 2, none⟩ = some (.int .i64 d) := by rw [cell_of_row _ _ _ _ _ _ HF.out]; rfl
          have y3 : (wr.alloc (.cells #[.string s, .int .i64 a, .int .i64 d, .string t] 187 (0, 0))).cell? ⟨wr.heap.size, 3, none⟩ = some (.string t) := by rw [cell_of_row _ _ _ _ _ _ HF.out]; rfl
          go_wp2_with fail
          clear hc0 hc1 hc2 hc3 y0 y1 y2 y3
          refine (HVP.out (wr.alloc (.cells #[.string s, .int .i64 a, .int .i64 d, .string t] 187 (0, 0)))).mono ?_
          rintro e w11 ⟨rfl, hb11⟩
          have HF1 := Lib.hid (blk_below HF.out hb11)
          have HBM := Lib.hid (HBN.out.trans (hb11.mono HBN.out.size))
          have HS1 := Lib.hid (HSV.out.kept HBM.out)
          have HK1 := Lib.hid (HKP.out.trans (Kp.of_below HBM.out))
          have HB1 := Lib.hid (HB.out.trans (HBM.out.mono HB.out.size))
          clear hb11 HF HBN HBM
          have y0 : w11.cell? ⟨wr.heap.size, 0, none⟩ = some (.string s) := by rw [cell_of_row _ _ _ _ _ _ HF1.out]; rfl
          have HA := Lib.hid (fadd_any B V.heap.size pr us _ id s u V w11 HS1.out HB1.out hB h2 HLE.out)
          go_wp2_with fail
          clear y0
          refine HA.out.mono ?_
          rintro e w2 ⟨rfl, vs2, hsv, hkp, hb⟩
          have HSV2 := Lib.hid hsv
          have HKP2 := Lib.hid (HK1.out.trans hkp)
          have HB2 := Lib.hid hb
          clear hsv hkp hb
          go_wp2_with fail
          go_roundw
          case rel => exact ⟨k + 1, vs2, by go_num, by omega, HSV2.out.le (by rw [HTA.out, ← addL_snoc, HU.out]; rfl), HKP2.out, HB2.out⟩
          case measure => simp [intOf] <;> omega
        · have hd1 : decide ((k : Int) < (n2 : Int)) = false := decide_eq_false (by omega)
          have HE := Lib.hid (show ps.take k = ps from List.take_of_length_le (by rw [HN2.out]; omega))
          rw [HE.out] at HSV
          go_wp2_with fail
          refine bodyPost_ret (v := .tuple #[]) (by simp [results, Try.results129, go_sem]) rfl ?_
          exact ⟨rfl, us, HSV.out.le (by rw [HMS.out]), HKP.out, HB.out⟩
end Go.Proofs.Ytbjngbacnkmjhaa
namespace Go.Proofs.Ytbjngbacnkmjhaa
open Go.RowKit Vi

def nF (x : Nd) : Fc := (1, x.1, ⟨#[]⟩, ⟨#[]⟩)
def eF (y : Ed) : Fc := (4, y.1, ⟨#[]⟩, y.2.1 ++ ⟨#[0]⟩ ++ y.2.2.1)
def stepN (Ls : Nat → List Fc) (x : Nd) : Nat → List Fc := addL 3 (x.2.2.map (pF 3 x.1)) (addL 2 (x.2.1.map (lF 2 x.1)) (addL 1 [nF x] Ls))
def stepE (Ls : Nat → List Fc) (y : Ed) : Nat → List Fc := addL 6 (y.2.2.2.2.map (pF 6 y.1)) (addL 5 (y.2.2.2.1.map (lF 5 y.1)) (addL 4 [eF y] Ls))
def gLs (X : List Nd) (Y : List Ed) : Nat → List Fc := Y.foldl stepE (X.foldl stepN (fun _ => []))
def fctL (L : Nat → List Fc) : List Fc := L 0 ++ (L 1 ++ (L 2 ++ (L 3 ++ (L 4 ++ (L 5 ++ L 6)))))
/-- the facts of a graph -/
def fcts (X : List Nd) (Y : List Ed) : List Fc := if gW X Y ≠ 0 then [] else fctL (gLs X Y)
/-- numbers that are ones -/
structure GrInt (X : List Nd) (Y : List Ed) : Prop where
  nd : ∀ x ∈ X, IntsOk x.2.2
  ed : ∀ y ∈ Y, IntsOk y.2.2.2.2
structure GrSm (X : List Nd) (Y : List Ed) : Prop where
  nd : ∀ x ∈ X, x.1.size ≤ 12 ∧ Sm x.2.1 x.2.2
  ed : ∀ y ∈ Y, y.1.size ≤ 12 ∧ y.2.1.size ≤ 12 ∧ y.2.2.1.size ≤ 12 ∧ Sm y.2.2.2.1 y.2.2.2.2
theorem wrN_zero : ∀ (p : ByteArray) (X : List Nd), wrN p X = 0 → ∀ x ∈ X, ndE x = 0
  | _, [], _, x, hx => by cases hx
  | p, y :: r, h, x, hx => by
    unfold wrN at h
    split at h
    · next h1 => exact absurd h h1
    · next h1 =>
      split at h
      · cases h
      · rcases List.mem_cons.1 hx with rfl | hx
        · simpa using h1
        · exact wrN_zero _ r h x hx
theorem wrE_zero (X : List Nd) : ∀ (p : ByteArray) (Y : List Ed), wrE X p Y = 0 → ∀ y ∈ Y, edE y = 0
  | _, [], _, x, hx => by cases hx
  | p, y :: r, h, x, hx => by
    unfold wrE at h
    split at h
    · next h1 => exact absurd h h1
    · next h1 =>
      split at h
      · cases h
      · split at h
        · cases h
        · rcases List.mem_cons.1 hx with rfl | hx
          · simpa using h1
          · exact wrE_zero X _ r h x hx
theorem gW_zero {X : List Nd} {Y : List Ed} (h : gW X Y = 0) : wrN ⟨#[]⟩ X = 0 ∧ wrE X ⟨#[]⟩ Y = 0 := by
  unfold gW at h
  split at h
  · cases h
  · split at h
    · next h1 => exact absurd h h1
    · next h1 => exact ⟨by simpa using h1, h⟩
theorem gr_sm {X : List Nd} {Y : List Ed} (h : gW X Y = 0) (k : GrInt X Y) : GrSm X Y := by
  obtain ⟨h1, h2⟩ := gW_zero h
  refine ⟨fun x hx => ?_, fun y hy => ?_⟩
  · have q := wrN_zero _ X h1 x hx
    unfold ndE ndW at q
    split at q
    · cases q
    · next q1 => exact ⟨nm_small (by simpa using q1), rs_sm q (k.nd x hx)⟩
  · have q := wrE_zero X _ Y h2 y hy
    obtain ⟨q1, q2, q3, q4⟩ := ed_zero q
    exact ⟨nm_small q1, nm_small q2, nm_small q3, rs_sm q4 (k.ed y hy)⟩
theorem stepN_len (Ls : Nat → List Fc) (x : Nd) (h : x.2.1.length ≤ 8 ∧ x.2.2.length ≤ 8) (i : Nat) : (stepN Ls x i).length ≤ (Ls i).length + 17 := by
  have q1 := addL_len 3 (x.2.2.map (pF 3 x.1)) (addL 2 (x.2.1.map (lF 2 x.1)) (addL 1 [nF x] Ls)) i
  have q2 := addL_len 2 (x.2.1.map (lF 2 x.1)) (addL 1 [nF x] Ls) i
  have q3 := addL_len 1 [nF x] Ls i
  rw [List.length_map] at q1 q2
  simp only [List.length_cons, List.length_nil] at q3
  unfold stepN
  omega
theorem stepE_len (Ls : Nat → List Fc) (x : Ed) (h : x.2.2.2.1.length ≤ 8 ∧ x.2.2.2.2.length ≤ 8) (i : Nat) : (stepE Ls x i).length ≤ (Ls i).length + 17 := by
  have q1 := addL_len 6 (x.2.2.2.2.map (pF 6 x.1)) (addL 5 (x.2.2.2.1.map (lF 5 x.1)) (addL 4 [eF x] Ls)) i
  have q2 := addL_len 5 (x.2.2.2.1.map (lF 5 x.1)) (addL 4 [eF x] Ls) i
  have q3 := addL_len 4 [eF x] Ls i
  rw [List.length_map] at q1 q2
  simp only [List.length_cons, List.length_nil] at q3
  unfold stepE
  omega
theorem foldN_len : ∀ (X : List Nd) (Ls : Nat → List Fc) (_ : ∀ x ∈ X, x.2.1.length ≤ 8 ∧ x.2.2.length ≤ 8) (i : Nat), (X.foldl stepN Ls i).length ≤ (Ls i).length + 17 * X.length
  | [], _, _, _ => by simp
  | x :: r, Ls, h, i => by
    have q1 := foldN_len r (stepN Ls x) (fun y hy => h y (List.mem_cons_of_mem _ hy)) i
    have q2 := stepN_len Ls x (h x (by simp)) i
    rw [List.foldl_cons, List.length_cons]
    omega
theorem foldE_len : ∀ (X : List Ed) (Ls : Nat → List Fc) (_ : ∀ x ∈ X, x.2.2.2.1.length ≤ 8 ∧ x.2.2.2.2.length ≤ 8) (i : Nat), (X.foldl stepE Ls i).length ≤ (Ls i).length + 17 * X.length
  | [], _, _, _ => by simp
  | x :: r, Ls, h, i => by
    have q1 := foldE_len r (stepE Ls x) (fun y hy => h y (List.mem_cons_of_mem _ hy)) i
    have q2 := stepE_len Ls x (h x (by simp)) i
    rw [List.foldl_cons, List.length_cons]
    omega
theorem Sv.nil {B base : Nat} {w : World} (h : w.heap[B]? = some (.cells #[.slice none 0 0, .slice none 0 0, .slice none 0 0, .slice none 0 0, .slice none 0 0, .slice none 0 0, .slice none 0 0] 180 (0, 0))) : Sv B base (fun _ => .slice none 0 0) (fun _ => []) w :=
  ⟨h, fun _ _ => OwX.nil _, fun _ _ _ _ _ b hb => by simp [Value.ownBlock] at hb⟩
/-- the seven rows as a row of slices -/
theorem Sv.rows {B base : Nat} {vs : Nat → Value} {Ls : Nat → List Fc} {w : World} (h : Sv B base vs Ls w) (hl : ∀ i, (Ls i).length ≤ 10000) : ∃ xs : List SlF, RdX slFC 1 w (some ⟨B, 0, none⟩) 7 xs ∧ (∀ x ∈ xs, RdX fcC 4 w x.a x.n x.l) ∧ totF xs ≤ 100000 ∧ xs.flatMap (·.l) = fctL Ls := by
  have hex : ∀ i, ∃ x : SlF, i < 7 → (vs i = .slice x.a x.n x.c ∧ RdX fcC 4 w x.a x.n x.l ∧ x.l = Ls i) := fun i => by
    by_cases hi : i < 7
    · obtain ⟨a, c, e, r, _, _⟩ := (h.own i hi).rd fcC_len
      exact ⟨⟨a, (Ls i).length, c, Ls i⟩, fun _ => ⟨e, r, rfl⟩⟩
    · exact ⟨⟨none, 0, 0, []⟩, fun q => absurd q hi⟩
  obtain ⟨g, hg⟩ := Classical.axiomOfChoice hex
  have g0 := hg 0 (by decide)
  have g1 := hg 1 (by decide)
  have g2 := hg 2 (by decide)
  have g3 := hg 3 (by decide)
  have g4 := hg 4 (by decide)
  have g5 := hg 5 (by decide)
  have g6 := hg 6 (by decide)
  refine ⟨[g 0, g 1, g 2, g 3, g 4, g 5, g 6], ?_, ?_, ?_, ?_⟩
  · refine rd_blk (f := slFC) (s := 1) (fun _ => rfl) _ h.box ?_
    unfold svR
    rw [g0.1, g1.1, g2.1, g3.1, g4.1, g5.1, g6.1]
    rfl
  · intro x hx
    simp only [List.mem_cons, List.not_mem_nil, or_false] at hx
    rcases hx with rfl | rfl | rfl | rfl | rfl | rfl | rfl
    · exact g0.2.1
    · exact g1.2.1
    · exact g2.2.1
    · exact g3.2.1
    · exact g4.2.1
    · exact g5.2.1
    · exact g6.2.1
  · have l0 := g0.2.1.1
    have l1 := g1.2.1.1
    have l2 := g2.2.1.1
    have l3 := g3.2.1.1
    have l4 := g4.2.1.1
    have l5 := g5.2.1.1
    have l6 := g6.2.1.1
    rw [g0.2.2] at l0
    rw [g1.2.2] at l1
    rw [g2.2.2] at l2
    rw [g3.2.2] at l3
    rw [g4.2.2] at l4
    rw [g5.2.2] at l5
    rw [g6.2.2] at l6
    have m0 := hl 0
    have m1 := hl 1
    have m2 := hl 2
    have m3 := hl 3
    have m4 := hl 4
    have m5 := hl 5
    have m6 := hl 6
    unfold totF
    simp only [List.map_cons, List.map_nil, List.sum_cons, List.sum_nil]
    omega
  · simp only [List.flatMap_cons, List.flatMap_nil, List.append_nil]
    rw [g0.2.2, g1.2.2, g2.2.2, g3.2.2, g4.2.2, g5.2.2, g6.2.2]
    rfl
set_option maxRecDepth 100000 in
set_option maxHeartbeats 8000000 in
theorem fof_any (A A2 : Option Addr) (n c n2 c2 : Nat) (X : List Nd) (Y : List Ed) (w : World) (h : GrIs w A n A2 n2 X Y) (k : GrOk X Y) (ki : GrInt X Y) (hn : n ≤ 100) (hn2 : n2 ≤ 100) :
    Calls Try.prog 44 #[.agg #[.slice A n c, .slice A2 n2 c2]] w (RetF0 w (fcts X Y)) := by
  have H := Lib.hid h
  have HL := Lib.hid h.nl
  have HCK := Lib.hid (fun (W : World) (q : GrIs W A n A2 n2 X Y) => gcheck_any A A2 n c n2 c2 X Y W q k)
  obtain ⟨z, hz⟩ : ∃ z, z = gW X Y := ⟨_, rfl⟩
  have HZ := Lib.hid hz
  have HKI := Lib.hid ki
  rw [← hz] at HCK
  clear h k ki hz
  have HB1 := Lib.hid (Below.refl w.heap.size w)
  go_enter Try.func44, Try.ntmps44
  have HF2 := Lib.hid (blk_new w (.cells #[.slice A n c, .slice A2 n2 c2] 65 (0, 0)))
  have HB3 := Lib.hid (HB1.out.alloc HB1.out.size (.cells #[.slice A n c, .slice A2 n2 c2] 65 (0, 0)))
  have c0 : (w.alloc (.cells #[.slice A n c, .slice A2 n2 c2] 65 (0, 0))).cell? ⟨w.heap.size, 0, none⟩ = some (.slice A n c) := by rw [cell_of_row _ _ _ _ _ _ HF2.out]; rfl
  have c1 : (w.alloc (.cells #[.slice A n c, .slice A2 n2 c2] 65 (0, 0))).cell? ⟨w.heap.size, 1, none⟩ = some (.slice A2 n2 c2) := by rw [cell_of_row _ _ _ _ _ _ HF2.out]; rfl
  go_wp2_with fail
  clear c0 c1
  refine (HCK.out (w.alloc (.cells #[.slice A n c, .slice A2 n2 c2] 65 (0, 0))) (H.out.below HB3.out)).mono ?_
  rintro e w1 ⟨rfl, hb1⟩
  have HF4 := Lib.hid (blk_below HF2.out hb1)
  have HB5 := Lib.hid (HB3.out.trans (hb1.mono HB3.out.size))
  clear hb1 HB3 HF2 HB1 HCK
  by_cases hz0 : z = 0
  rotate_left
  · have hzn : (z != 0) = true := by simpa using hz0
    have HE := Lib.hid (show fcts X Y = [] by unfold fcts; rw [if_pos (by rw [← HZ.out]; exact hz0)])
    go_wp2_with fail
    go_ret
    exact ⟨_, rfl, by rw [HE.out]; exact OwX.nil _, HB5.out⟩
  subst hz0
  have HE := Lib.hid (show fcts X Y = fctL (gLs X Y) by unfold fcts; rw [if_neg (by rw [← HZ.out]; simp)])
  have HSM := Lib.hid (gr_sm HZ.out.symm HKI.out)
  clear HKI HZ
  have HBX := Lib.hid (blk_new w1 (.cells #[.slice none 0 0, .slice none 0 0, .slice none 0 0, .slice none 0 0, .slice none 0 0, .slice none 0 0, .slice none 0 0] 180 (0, 0)))
  have HG := Lib.hid (blk_alloc HF4.out (.cells #[.slice none 0 0, .slice none 0 0, .slice none 0 0, .slice none 0 0, .slice none 0 0, .slice none 0 0, .slice none 0 0] 180 (0, 0)))
  have HB6 := Lib.hid (HB5.out.alloc HB5.out.size (.cells #[.slice none 0 0, .slice none 0 0, .slice none 0 0, .slice none 0 0, .slice none 0 0, .slice none 0 0, .slice none 0 0] 180 (0, 0)))
  have hB1 := HB5.out.size
  have hgl : w.heap.size < w1.heap.size := lt_of_block HF4.out
  have HSV0 := Lib.hid (Sv.nil (base := w.heap.size) HBX.out)
  clear HBX
  have c0 : (w1.alloc (.cells #[.slice none 0 0, .slice none 0 0, .slice none 0 0, .slice none 0 0, .slice none 0 0, .slice none 0 0, .slice none 0 0] 180 (0, 0))).cell? ⟨w.heap.size, 0, none⟩ = some (.slice A n c) := by rw [cell_of_row _ _ _ _ _ _ HG.out]; rfl
  have c1 : (w1.alloc (.cells #[.slice none 0 0, .slice none 0 0, .slice none 0 0, .slice none 0 0, .slice none 0 0, .slice none 0 0, .slice none 0 0] 180 (0, 0))).cell? ⟨w.heap.size, 1, none⟩ = some (.slice A2 n2 c2) := by rw [cell_of_row _ _ _ _ _ _ HG.out]; rfl
  go_wp2_with fail
  clear c0 c1
  go_loopw [14] (fun i wr => ∃ (k : Nat) (us : Nat → Value), i = .int .i64 (k : Int) ∧ k ≤ n ∧ Sv w1.heap.size w.heap.size us ((X.take k).foldl stepN (fun _ => [])) wr ∧ wr.heap[w.heap.size]? = some (.cells #[.slice A n c, .slice A2 n2 c2] 65 (0, 0)) ∧ Below w.heap.size w wr) (fun i _ => n - (intOf i).toNat)
  case atStart => exact ⟨0, _, rfl, Nat.zero_le _, HSV0.out, HG.out, HB6.out⟩
  case round =>
    obtain ⟨k, us, rfl, hk, hsv, hg, hb⟩ := hrel
    have HSV := Lib.hid hsv
    have HGR := Lib.hid hg
    have HB := Lib.hid hb
    have hBl := lt_of_block hsv.box
    clear hsv hg hb
    by_cases hlt : k < n
    · have hd1 : decide ((k : Int) < (n : Int)) = true := decide_eq_true (by omega)
      have hi0 : (0 : Int) ≤ (k : Int) := by omega
      have hkl : k < X.length := by have := HL.out.1; omega
      obtain ⟨x, hxx⟩ : ∃ x, x = X[k] := ⟨_, rfl⟩
      have HK := Lib.hid (show X[k]? = some x by rw [List.getElem?_eq_getElem hkl, hxx])
      have HTA := Lib.hid (show (X.take (k + 1)).foldl stepN (fun _ => []) = stepN ((X.take k).foldl stepN (fun _ => [])) x by rw [List.take_succ_eq_append_getElem hkl, List.foldl_append, hxx]; rfl)
      have hsm := HSM.out.nd x (by rw [hxx]; exact List.getElem_mem hkl)
      have HLN := Lib.hid (fun i => foldN_len (X.take k) (fun _ => []) (fun y hy => by have q := (HSM.out.nd y (List.mem_of_mem_take hy)).2; exact ⟨q.l, q.pl⟩) i)
      have HLM := Lib.hid (show ∀ i, ((X.take k).foldl stepN (fun _ => []) i).length ≤ 400000 from fun i => by
        have q := HLN.out i
        rw [List.length_take] at q
        simp only [List.length_nil] at q
        omega)
      clear hxx HLN
      obtain ⟨b1, o1, L1, q1, r1, M1, rfl, x0, x1, x2, hp1⟩ := H.out.node hlt HK.out
      obtain ⟨i, ss, ps⟩ := x
      dsimp only at x0 x1 x2 hp1 hsm
      have x0 : wr.cell? ⟨b1, o1 + k * 3, none⟩ = some (.string i) := (HB.out.cell (p := ⟨b1, o1 + k * 3, none⟩) (World.block_lt_of_cell? w _ x0)).trans x0
      have x1 : wr.cell? ⟨b1, o1 + k * 3 + 1, none⟩ = some (.slice L1 ss.length q1) := (HB.out.cell (p := ⟨b1, o1 + k * 3 + 1, none⟩) (World.block_lt_of_cell? w _ x1)).trans x1
      have x2 : wr.cell? ⟨b1, o1 + k * 3 + 2, none⟩ = some (.slice M1 ps.length r1) := (HB.out.cell (p := ⟨b1, o1 + k * 3 + 2, none⟩) (World.block_lt_of_cell? w _ x2)).trans x2
      have HP1 := Lib.hid hp1
      have HS1 := Lib.hid hsm.2
      clear hp1 hsm
      obtain ⟨Ms, hMs⟩ : ∃ Ms, Ms = (X.take k).foldl stepN (fun _ => []) := ⟨_, rfl⟩
      rw [← hMs] at HTA HSV HLM
      clear hMs
      have HPF := Lib.hid (fun (W : World) (us : Nat → Value) (q : Sv w1.heap.size w.heap.size us (addL 1 [nF (i, ss, ps)] Ms) W) (hb : Below w.heap.size w W) => fparts_any w1.heap.size 2 3 us (addL 1 [nF (i, ss, ps)] Ms) i L1 M1 ss.length q1 ps.length r1 ss ps w W HP1.out HS1.out q hb hB1 (by decide) (by decide) (fun i0 => by have e1 := addL_len 1 [nF (i, ss, ps)] Ms i0; have e2 := HLM.out i0; simp only [List.length_cons, List.length_nil] at e1; omega))
      have HAF := Lib.hid (fun (W : World) (us : Nat → Value) (q : Sv w1.heap.size w.heap.size us Ms W) (hb : Below w.heap.size w W) => fadd_any w1.heap.size w.heap.size 1 us Ms i ⟨#[]⟩ ⟨#[]⟩ w W q hb hB1 (by decide) (by have := HLM.out 1; omega))
      generalize ss.length = ns at *
      generalize ps.length = np at *
      have HF7 := Lib.hid (blk_new wr (.cells #[.string i, .slice L1 ns q1, .slice M1 np r1] 81 (0, 0)))
      have HBn := Lib.hid ((Below.refl wr.heap.size wr).alloc (Nat.le_refl _) (.cells #[.string i, .slice L1 ns q1, .slice M1 np r1] 81 (0, 0)))
      have HSV1 := Lib.hid (HSV.out.kept HBn.out)
      have HG1 := Lib.hid (blk_below HGR.out HBn.out)
      have HB7 := Lib.hid (HB.out.trans (HBn.out.mono HB.out.size))
      have y0 : (wr.alloc (.cells #[.string i, .slice L1 ns q1, .slice M1 np r1] 81 (0, 0))).cell? ⟨wr.heap.size, 0, none⟩ = some (.string i) := by rw [cell_of_row _ _ _ _ _ _ HF7.out]; rfl
      have y1 : (wr.alloc (.cells #[.string i, .slice L1 ns q1, .slice M1 np r1] 81 (0, 0))).cell? ⟨wr.heap.size, 1, none⟩ = some (.slice L1 ns q1) := by rw [cell_of_row _ _ _ _ _ _ HF7.out]; rfl
      have y2 : (wr.alloc (.cells #[.string i, .slice L1 ns q1, .slice M1 np r1] 81 (0, 0))).cell? ⟨wr.heap.size, 2, none⟩ = some (.slice M1 np r1) := by rw [cell_of_row _ _ _ _ _ _ HF7.out]; rfl
      go_wp2_with fail
      clear x0 x1 x2 y0 y1 y2
      refine (HAF.out (wr.alloc (.cells #[.string i, .slice L1 ns q1, .slice M1 np r1] 81 (0, 0))) us HSV1.out HB7.out).mono ?_
      rintro e w2 ⟨rfl, vs2, hsv, hkp, hb⟩
      have HSV2 := Lib.hid hsv
      have HF8 := Lib.hid (hkp.blk _ _ _ _ HF7.out (by decide) (by omega))
      have HG2 := Lib.hid (hkp.blk _ _ _ _ HG1.out (by decide) (by omega))
      have HB8 := Lib.hid hb
      clear hsv hkp hb
      have y0 : w2.cell? ⟨wr.heap.size, 0, none⟩ = some (.string i) := by rw [cell_of_row _ _ _ _ _ _ HF8.out]; rfl
      have y1 : w2.cell? ⟨wr.heap.size, 1, none⟩ = some (.slice L1 ns q1) := by rw [cell_of_row _ _ _ _ _ _ HF8.out]; rfl
      have y2 : w2.cell? ⟨wr.heap.size, 2, none⟩ = some (.slice M1 np r1) := by rw [cell_of_row _ _ _ _ _ _ HF8.out]; rfl
      go_wp2_with fail
      clear y0 y1 y2
      refine (HPF.out w2 vs2 HSV2.out HB8.out).mono ?_
      rintro e w3 ⟨rfl, vs3, hsv, hkp, hb⟩
      have HSV3 := Lib.hid hsv
      have HG3 := Lib.hid (hkp.blk _ _ _ _ HG2.out (by decide) (by omega))
      have HB9 := Lib.hid hb
      clear hsv hkp hb
      go_wp2_with fail
      go_roundw
      case rel => exact ⟨k + 1, vs3, by go_num, by omega, HSV3.out.le (by rw [HTA.out]; rfl), HG3.out, HB9.out⟩
      case measure => simp [intOf] <;> omega
    · have hd1 : decide ((k : Int) < (n : Int)) = false := decide_eq_false (by omega)
      have HT := Lib.hid (show X.take k = X from List.take_of_length_le (by have := HL.out.1; omega))
      rw [HT.out] at HSV
      have HLN := Lib.hid (fun i => foldN_len X (fun _ => []) (fun y hy => by have q := (HSM.out.nd y hy).2; exact ⟨q.l, q.pl⟩) i)
      obtain ⟨Ns, hNs⟩ : ∃ Ns, Ns = X.foldl stepN (fun _ => []) := ⟨_, rfl⟩
      have HNS := Lib.hid hNs
      rw [← hNs] at HSV HLN
      clear hNs HT
      have HLM := Lib.hid (show ∀ i, (Ns i).length ≤ 1700 from fun i => by
        have q := HLN.out i
        simp only [List.length_nil] at q
        have := HL.out.1
        omega)
      clear HLN
      have c0 : wr.cell? ⟨w.heap.size, 0, none⟩ = some (.slice A n c) := by rw [cell_of_row _ _ _ _ _ _ HGR.out]; rfl
      have c1 : wr.cell? ⟨w.heap.size, 1, none⟩ = some (.slice A2 n2 c2) := by rw [cell_of_row _ _ _ _ _ _ HGR.out]; rfl
      go_wp2_with fail
      clear c0 c1 hd1
      go_loopw [33] (fun i wr => ∃ (k : Nat) (us : Nat → Value), i = .int .i64 (k : Int) ∧ k ≤ n2 ∧ Sv w1.heap.size w.heap.size us ((Y.take k).foldl stepE Ns) wr ∧ Below w.heap.size w wr) (fun i _ => n2 - (intOf i).toNat)
      case atStart => exact ⟨0, _, rfl, Nat.zero_le _, HSV.out, HB.out⟩
      case round =>
        clear hlt hk HSV HGR HB hBl
        obtain ⟨k, us, rfl, hk, hsv, hb⟩ := hrel
        have HSV := Lib.hid hsv
        have HB := Lib.hid hb
        have hBl := lt_of_block hsv.box
        clear hsv hb
        by_cases hlt : k < n2
        · have hd1 : decide ((k : Int) < (n2 : Int)) = true := decide_eq_true (by omega)
          have hi0 : (0 : Int) ≤ (k : Int) := by omega
          have hkl : k < Y.length := by have := HL.out.2; omega
          obtain ⟨x, hxx⟩ : ∃ x, x = Y[k] := ⟨_, rfl⟩
          have HK := Lib.hid (show Y[k]? = some x by rw [List.getElem?_eq_getElem hkl, hxx])
          have HTA := Lib.hid (show (Y.take (k + 1)).foldl stepE Ns = stepE ((Y.take k).foldl stepE Ns) x by rw [List.take_succ_eq_append_getElem hkl, List.foldl_append, hxx]; rfl)
          have hsm := HSM.out.ed x (by rw [hxx]; exact List.getElem_mem hkl)
          have HLN := Lib.hid (fun i => foldE_len (Y.take k) Ns (fun y hy => by have q := (HSM.out.ed y (List.mem_of_mem_take hy)).2.2.2; exact ⟨q.l, q.pl⟩) i)
          have HLM2 := Lib.hid (show ∀ i, ((Y.take k).foldl stepE Ns i).length ≤ 400000 from fun i => by
            have q := HLN.out i
            have q2 := HLM.out i
            rw [List.length_take] at q
            omega)
          clear hxx HLN
          obtain ⟨b1, o1, L1, q1, r1, M1, rfl, x0, x1, x2, x3, x4, hp1⟩ := H.out.edge hlt HK.out
          obtain ⟨i, f, g, ss, ps⟩ := x
          dsimp only at x0 x1 x2 x3 x4 hp1 hsm
          have x0 : wr.cell? ⟨b1, o1 + k * 5, none⟩ = some (.string i) := (HB.out.cell (p := ⟨b1, o1 + k * 5, none⟩) (World.block_lt_of_cell? w _ x0)).trans x0
          have x1 : wr.cell? ⟨b1, o1 + k * 5 + 1, none⟩ = some (.string f) := (HB.out.cell (p := ⟨b1, o1 + k * 5 + 1, none⟩) (World.block_lt_of_cell? w _ x1)).trans x1
          have x2 : wr.cell? ⟨b1, o1 + k * 5 + 2, none⟩ = some (.string g) := (HB.out.cell (p := ⟨b1, o1 + k * 5 + 2, none⟩) (World.block_lt_of_cell? w _ x2)).trans x2
          have x3 : wr.cell? ⟨b1, o1 + k * 5 + 3, none⟩ = some (.slice L1 ss.length q1) := (HB.out.cell (p := ⟨b1, o1 + k * 5 + 3, none⟩) (World.block_lt_of_cell? w _ x3)).trans x3
          have x4 : wr.cell? ⟨b1, o1 + k * 5 + 4, none⟩ = some (.slice M1 ps.length r1) := (HB.out.cell (p := ⟨b1, o1 + k * 5 + 4, none⟩) (World.block_lt_of_cell? w _ x4)).trans x4
          have HP1 := Lib.hid hp1
          have HS1 := Lib.hid hsm.2.2.2
          have hf12 := hsm.2.1
          have hg12 := hsm.2.2.1
          have HEN := Lib.hid (fun W : World => fends_any f g W (by omega) (by omega))
          obtain ⟨en, hen⟩ : ∃ en, en = f ++ ⟨#[0]⟩ ++ g := ⟨_, rfl⟩
          rw [← hen] at HEN
          clear hp1 hsm hf12 hg12
          obtain ⟨Ms, hMs⟩ : ∃ Ms, Ms = (Y.take k).foldl stepE Ns := ⟨_, rfl⟩
          rw [← hMs] at HTA HSV HLM2
          clear hMs
          have HPF := Lib.hid (fun (W : World) (us : Nat → Value) (q : Sv w1.heap.size w.heap.size us (addL 4 [eF (i, f, g, ss, ps)] Ms) W) (hb : Below w.heap.size w W) => fparts_any w1.heap.size 5 6 us (addL 4 [eF (i, f, g, ss, ps)] Ms) i L1 M1 ss.length q1 ps.length r1 ss ps w W HP1.out HS1.out q hb hB1 (by decide) (by decide) (fun i0 => by have e1 := addL_len 4 [eF (i, f, g, ss, ps)] Ms i0; have e2 := HLM2.out i0; simp only [List.length_cons, List.length_nil] at e1; omega))
          have HAF := Lib.hid (fun (W : World) (us : Nat → Value) (q : Sv w1.heap.size w.heap.size us Ms W) (hb : Below w.heap.size w W) => fadd_any w1.heap.size w.heap.size 4 us Ms i ⟨#[]⟩ en w W q hb hB1 (by decide) (by have := HLM2.out 4; omega))
          have HEQ := Lib.hid (show ((4 : Nat) : Int) = 4 from rfl)
          have HEF := Lib.hid (show eF (i, f, g, ss, ps) = (((4 : Nat) : Int), i, ⟨#[]⟩, en) by rw [hen]; rfl)
          clear hen
          generalize ss.length = ns at *
          generalize ps.length = np at *
          have HF7 := Lib.hid (blk_new wr (.cells #[.string i, .string f, .string g, .slice L1 ns q1, .slice M1 np r1] 85 (0, 0)))
          have HBn := Lib.hid ((Below.refl wr.heap.size wr).alloc (Nat.le_refl _) (.cells #[.string i, .string f, .string g, .slice L1 ns q1, .slice M1 np r1] 85 (0, 0)))
          have HSV1 := Lib.hid (HSV.out.kept HBn.out)
          have HB7 := Lib.hid (HB.out.trans (HBn.out.mono HB.out.size))
          go_upto_region 13 with (fail)
          obtain ⟨v, hv⟩ : ∃ v, v = wr.alloc (.cells #[.string i, .string f, .string g, .slice L1 ns q1, .slice M1 np r1] 85 (0, 0)) := ⟨_, rfl⟩
          rw [← hv] at HF7 HSV1 HB7
          try rw [← hv]
          clear hv HBn x0 x1 x2 x3 x4
          have HSVd := Lib.hid (HSV1.out.kept (Below.refl _ v).drew)
          have HFd : Hid (v.drew.heap[wr.heap.size]? = some (.cells #[.string i, .string f, .string g, .slice L1 ns q1, .slice M1 np r1] 85 (0, 0))) := Lib.hid HF7.out
          have y0 : v.drew.cell? ⟨wr.heap.size, 0, none⟩ = some (.string i) := (cell_of_row _ _ _ _ _ _ HFd.out).trans rfl
          have y1 : v.drew.cell? ⟨wr.heap.size, 1, none⟩ = some (.string f) := (cell_of_row _ _ _ _ _ _ HFd.out).trans rfl
          have y2 : v.drew.cell? ⟨wr.heap.size, 2, none⟩ = some (.string g) := (cell_of_row _ _ _ _ _ _ HFd.out).trans rfl
          go_region_held3 (fun w' => w'.cell? ⟨wr.heap.size, 0, none⟩ = some (.string i) ∧ w'.cell? ⟨wr.heap.size, 1, none⟩ = some (.string f) ∧ w'.cell? ⟨wr.heap.size, 2, none⟩ = some (.string g))
            (first | exact ⟨y0, y1, y2⟩ | exact ⟨u0, u1, u2⟩)
            (first
            | (go_at_call 130; refine (HEN.out _).mono ?_; rintro e w9 ⟨rfl, rfl⟩)
            | (go_at_call 128; refine (HAF.out v.drew us HSVd.out HB7.out.drew).mono ?_; rintro e w2 ⟨rfl, vs2, hsv, hkp, hb⟩; have HSV2 := Lib.hid hsv; have HF8 := Lib.hid (hkp.blk _ _ _ _ HFd.out (by decide) (by omega)); have HB8 := Lib.hid hb; have u0 := (cell_of_row _ _ 0 _ _ _ HF8.out).trans rfl; have u1 := (cell_of_row _ _ 1 _ _ _ HF8.out).trans rfl; have u2 := (cell_of_row _ _ 2 _ _ _ HF8.out).trans rfl; clear hsv hkp hb))
          all_goals
            have u3 : w2.cell? ⟨wr.heap.size, 3, none⟩ = some (.slice L1 ns q1) := (cell_of_row _ _ _ _ _ _ HF8.out).trans rfl
            have u4 : w2.cell? ⟨wr.heap.size, 4, none⟩ = some (.slice M1 np r1) := (cell_of_row _ _ _ _ _ _ HF8.out).trans rfl
            have u0' : w2.cell? ⟨wr.heap.size, 0, none⟩ = some (.string i) := (cell_of_row _ _ _ _ _ _ HF8.out).trans rfl
            go_wp2_with fail
            refine (HPF.out w2 vs2 (HSV2.out.le (by rw [HEF.out]; rfl)) HB8.out).mono ?_
            rintro e w3 ⟨rfl, vs3, hsv, hkp, hb⟩
            have HSV3 := Lib.hid hsv
            have HB9 := Lib.hid hb
            clear hsv hkp hb
            go_wp2_with fail
            go_roundw
            case rel => exact ⟨k + 1, vs3, by go_num, by omega, HSV3.out.le (by rw [HTA.out]; rfl), HB9.out⟩
            case measure => simp [intOf] <;> omega
        · have hd1 : decide ((k : Int) < (n2 : Int)) = false := decide_eq_false (by omega)
          have HT := Lib.hid (show Y.take k = Y from List.take_of_length_le (by have := HL.out.2; omega))
          rw [HT.out] at HSV
          have HLN := Lib.hid (fun i => foldE_len Y Ns (fun y hy => by have q := (HSM.out.ed y hy).2.2.2; exact ⟨q.l, q.pl⟩) i)
          obtain ⟨xs, hx1, hx2, hx3, hx4⟩ := HSV.out.rows (fun i => by have q1 := HLN.out i; have q2 := HLM.out i; have := HL.out.2; omega)
          have HR := Lib.hid (show xs.flatMap (·.l) = fcts X Y by rw [hx4, HE.out]; unfold gLs; rw [← HNS.out])
          have HC := Lib.hid (fconcat_any w1.heap.size 0 7 7 xs wr hx1 hx2 (by omega) hx3)
          rw [HR.out] at HC
          clear hx1 hx2 hx3 hx4 HT HLN
          go_wp2_with fail
          refine HC.out.mono ?_
          rintro e w9 ⟨v9, rfl, ho, hb9⟩
          have HO := Lib.hid (ho.mono HB.out.size)
          have HB9 := Lib.hid (HB.out.trans (hb9.mono HB.out.size))
          obtain ⟨a9, n9, c9, rfl⟩ := ho.sl3
          clear ho hb9
          go_wp2_with fail
          go_ret
          exact ⟨_, rfl, HO.out, HB9.out⟩
end Go.Proofs.Ytbjngbacnkmjhaa
