/- Several texts of one family, merged for a claim. Conditions as in its parts. -/
import Derived.Test.YtpjpegmjcgkonaaPr
import Derived.Test.YtpjpegmjcgkonaaZb
import Derived.Lib.AppendZerosOnto
import Derived.OrdersHeld
import Derived.Test.YtpjpegmjcgkonaaProg
import Derived.Deep.RegionHeld3
import Derived.Test.YtpjpegmjcgkonaaPx
import Derived.Test.YtpjpegmjcgkonaaIb
import Derived.BigQuiet
namespace Go.Proofs.Ytpjpegmjcgkonaa
open Go.RowKit

theorem flat_inv {α : Type} {f : α → List Value} {s : Nat} (hf : ∀ x, (f x).length = s) (hs0 : 0 < s) (l : List α) (j : Nat) (u : Value) (h : (flat f l)[j]? = some u) : ∃ (k r : Nat) (x : α), j = k * s + r ∧ l[k]? = some x ∧ (f x)[r]? = some u := by
  have hj := (List.getElem?_eq_some_iff.1 h).1
  rw [flat_len hf] at hj
  have hk : j / s < l.length := (Nat.div_lt_iff_lt_mul hs0).2 hj
  have hr : j % s < s := Nat.mod_lt _ hs0
  have hx : l[j / s]? = some l[j / s] := List.getElem?_eq_getElem hk
  have hu : (f l[j / s])[j % s]? = some ((f l[j / s])[j % s]'(by rw [hf]; exact hr)) := List.getElem?_eq_getElem _
  have e : j / s * s + j % s = j := by rw [Nat.mul_comm]; exact Nat.div_add_mod j s
  have hg := flat_get hf l (j / s) (j % s) _ _ hx hu
  rw [e, h] at hg
  exact ⟨j / s, j % s, _, e.symm, hx, by rw [hu]; exact hg.symm⟩
theorem run_appNil {α : Type} {f : α → List Value} {s : Nat} {w : World} {t e : TypeId} {z : Value} {bytes : Nat} (hu : Try.prog.underlying t = some (.slice e)) (hinfo : (Try.prog.info? e).map (fun i => (i.zero, i.size, i.bytes)) = some (some z, s, bytes))
    (ty : TypeId) (B : Nat) (v : Value) (l : List α) (hown : OwX f s e w B v l) (c : Nat) :
    (Builtin.append_ #[t, t] ty #[v, .slice none 0 c]).run Try.prog w = .ok v w := by
  obtain ⟨i0, hi, _, hz1, _⟩ := info_parts hinfo
  have hu' := run_underlying (P := Try.prog) hu
  rcases hown.2 with ⟨rfl, h0⟩ | ⟨g, cap, cur, rfl, _, _, hnc, _⟩
  · simp [Builtin.append_, hu', sizeOf, typeInfo, hi, Builtin.lenOf, Builtin.firstCells]
  · simp [Builtin.append_, hu', sizeOf, typeInfo, hi, Builtin.lenOf, Builtin.firstCells, hnc, storeCells]
theorem run_appXs {α : Type} {f : α → List Value} {s : Nat} {w : World} {t e : TypeId} {z : Value} {bytes : Nat} (hu : Try.prog.underlying t = some (.slice e)) (hinfo : (Try.prog.info? e).map (fun i => (i.zero, i.size, i.bytes)) = some (some z, s, bytes)) (hz : z.cells.size = s) (hs0 : 0 < s) (hby : bytes ≤ 100)
    (hf : ∀ x, (f x).length = s) (h1 : ∀ x, ∀ u ∈ f x, u.oneCell' = true) (ty : TypeId) (B : Nat) (v : Value) (l : List α) (hown : OwX f s e w B v l)
    (A : Option Addr) (m c : Nat) (ys : List α) (hr : RdX f s w A m ys) (hm : l.length + m ≤ 1000000) (hbase : B ≤ w.heap.size) :
    ∃ v' w', (Builtin.append_ #[t, t] ty #[v, .slice A m c]).run Try.prog w = .ok v' w' ∧ OwX f s e w' B v' (l ++ ys) ∧ w.grownBy w' v.ownBlock := by
  have hl := hr.1
  rcases A with _ | ad
  · have h0 : m = 0 := by
      rcases Nat.eq_zero_or_pos m with h0 | h0
      · exact h0
      · obtain ⟨b, off, e, _⟩ := hr.2 h0
        cases e
    subst h0
    have e0 : ys = [] := List.length_eq_zero_iff.1 hl
    subst e0
    exact ⟨v, w, run_appNil hu hinfo ty B v l hown c, by rw [List.append_nil]; exact hown, World.grownBy.refl w _⟩
  · obtain ⟨i0, hi, hz0, hz1, hz2⟩ := info_parts hinfo
    have hmul : (l.length + m) * bytes ≤ 1000000 * 100 := Nat.mul_le_mul hm hby
    have hcells : ∀ j u, (flat f ys)[j]? = some u → w.cell? (ad.add j) = some u := by
      intro j u hj
      obtain ⟨k, r, x, rfl, hx, hu2⟩ := flat_inv hf hs0 ys j u hj
      have hk := (List.getElem?_eq_some_iff.1 hx).1
      obtain ⟨b, off, e1, _, hc⟩ := hr.2 (by omega)
      cases e1
      rw [Addr.add_lit]
      have := hc k x r u hx hu2
      rwa [Nat.add_assoc] at this
    obtain ⟨v', w', hrun, h2, h3, _, _⟩ := run_append_own_at (P := Try.prog) w B t ty e i0 z s bytes hu hi hz0 hz1 hz2 hz hs0 v l.length (flat f l) hown ad m c (flat f ys)
      (by rw [flat_len hf, hl]) hcells (fun u hu2 => by
        unfold flat at hu2
        obtain ⟨x, _, hx⟩ := List.mem_flatMap.1 hu2
        exact h1 x u hx) (by unfold maxLen; omega) (by omega) hbase
    refine ⟨v', w', hrun, ?_, h3⟩
    unfold OwX
    rw [List.length_append, flat_app, hl]
    exact h2
theorem wpList_appXs {α : Type} {f : α → List Value} {s : Nat} {ops : Array Oper} {rest : List Oper} {o : Oper} {a : Act} {Q : Exit → Act → World → Prop} {w : World} (hgd : o.guard = none) (sl xo : Operand) (t e : TypeId) (z : Value) (bytes : Nat)
    (ho : o.op = .call { callee := .builtin .append, args := #[sl, xo], argTypes := #[t, t] })
    (hu : Try.prog.underlying t = some (.slice e)) (hinfo : (Try.prog.info? e).map (fun i => (i.zero, i.size, i.bytes)) = some (some z, s, bytes)) (hz : z.cells.size = s) (hs0 : 0 < s) (hby : bytes ≤ 100)
    (hf : ∀ x, (f x).length = s) (h1 : ∀ x, ∀ u ∈ f x, u.oneCell' = true)
    (B : Nat) (w0 : World) (hb : Below B w0 w) (hB : B ≤ w.heap.size) (v : Value) (l : List α) (hs : a.eval sl = v) (hown : OwX f s e w B v l)
    (A : Option Addr) (m c : Nat) (ys : List α) (hx : a.eval xo = .slice A m c) (hr : RdX f s w A m ys) (hm : l.length + m ≤ 1000000)
    (h : ∀ v' w', Hid (OwX f s e w' B v' (l ++ ys)) → Hid (Below B w0 w') → Hid (B ≤ w'.heap.size) → Hid (w.grownBy w' v.ownBlock) → wpList Try.prog ops Q rest (a.put o.dst v') w') : wpList Try.prog ops Q (o :: rest) a w := by
  refine wpList_plain hgd fun K hK => ?_
  obtain ⟨v', w', hrun, h2, h3⟩ := run_appXs hu hinfo hz hs0 hby hf h1 o.type B v l hown A m c ys hr hm hB
  unfold Oper.wp execOp
  simp only [ho, resolve, invoke, builtin, Sem.run_bind, Sem.run_pure, Result.andThen_ok, List.map_toArray, List.map_cons, List.map_nil, hs, hx, hrun]
  exact hK _ _ (h v' w' h2 (hb.grown h3 hB (fun k hk => (World.ownsRow.lt hown k hk).1)) (Nat.le_trans hB h3.size) h3)
theorem step_appXs {α : Type} {f : α → List Value} {s : Nat} {ops : Array Oper} {o : Oper} {a : Act} {K : Act → World → Prop} {Q : Exit → Act → World → Prop} {E : Prop} {w : World} (hgd : o.guard = none) (sl xo : Operand) (t e : TypeId) (z : Value) (bytes : Nat)
    (ho : o.op = .call { callee := .builtin .append, args := #[sl, xo], argTypes := #[t, t] })
    (hu : Try.prog.underlying t = some (.slice e)) (hinfo : (Try.prog.info? e).map (fun i => (i.zero, i.size, i.bytes)) = some (some z, s, bytes)) (hz : z.cells.size = s) (hs0 : 0 < s) (hby : bytes ≤ 100)
    (hf : ∀ x, (f x).length = s) (h1 : ∀ x, ∀ u ∈ f x, u.oneCell' = true)
    (B : Nat) (w0 : World) (hb : Below B w0 w) (hB : B ≤ w.heap.size) (v : Value) (l : List α) (hs : a.eval sl = v) (hown : OwX f s e w B v l)
    (A : Option Addr) (m c : Nat) (ys : List α) (hx : a.eval xo = .slice A m c) (hr : RdX f s w A m ys) (hm : l.length + m ≤ 1000000)
    (h : ∀ v' w', Hid (OwX f s e w' B v' (l ++ ys)) → Hid (Below B w0 w') → Hid (B ≤ w'.heap.size) → Hid (w.grownBy w' v.ownBlock) → K (a.put o.dst v') w') :
    if Region.wanted o (yielded ops a.tmps) = true then Oper.wp Try.prog o a w K Q else E := by
  have hw : Region.wanted o (yielded ops a.tmps) = true := by simp [Region.wanted, hgd]
  rw [if_pos hw]
  obtain ⟨v', w', hrun, h2, h3⟩ := run_appXs hu hinfo hz hs0 hby hf h1 o.type B v l hown A m c ys hr hm hB
  unfold Oper.wp execOp
  simp only [ho, resolve, invoke, builtin, Sem.run_bind, Sem.run_pure, Result.andThen_ok, List.map_toArray, List.map_cons, List.map_nil, hs, hx, hrun]
  exact h v' w' h2 (hb.grown h3 hB (fun k hk => (World.ownsRow.lt hown k hk).1)) (Nat.le_trans hB h3.size) h3
theorem OwX.zero {α : Type} {f : α → List Value} {s : Nat} {T : TypeId} {W : World} {p B c : Nat} {cs : Array Value} (h : W.heap[p]? = some (.cells cs T (0, 0))) (hB : B ≤ p) (hc : c ≤ maxLen) (hz : cs.size = c * s) : OwX f s T W B (.slice (some ⟨p, 0, none⟩) 0 c) [] :=
  ⟨by simp [flat], .inr ⟨p, c, cs, rfl, hB, h, Nat.zero_le _, hc, hz, by simp [flat]⟩⟩
theorem RdX.take {α : Type} {f : α → List Value} {s : Nat} {w : World} {A : Option Addr} {n : Nat} {l : List α} (h : RdX f s w A n l) (k : Nat) (hk : k ≤ n) : RdX f s w A k (l.take k) :=
  ⟨by rw [List.length_take, h.1]; omega, fun hp => by
    obtain ⟨b, off, e, hlt, hc⟩ := h.2 (by omega)
    refine ⟨b, off, e, hlt, fun i x j u hx hu => hc i x j u ?_ hu⟩
    rw [List.getElem?_take] at hx
    split at hx
    · exact hx
    · cases hx⟩
/-- the address at which a slice that is cut at its front begins -/
def cutX (s : Nat) (A : Option Addr) (c k : Nat) : Option Addr := if c = k then A else A.map (·.add (k * s))
theorem RdX.drop {α : Type} {f : α → List Value} {s : Nat} {w : World} {A : Option Addr} {n c : Nat} {l : List α} (h : RdX f s w A n l) (k : Nat) (hk : k ≤ n) (hc : n ≤ c) : RdX f s w (cutX s A c k) (n - k) (l.drop k) :=
  ⟨by rw [List.length_drop, h.1], fun hp => by
    obtain ⟨b, off, e, hlt, hcl⟩ := h.2 (by omega)
    subst e
    refine ⟨b, off + k * s, ?_, hlt, fun i x j u hx hu => ?_⟩
    · unfold cutX
      rw [if_neg (by omega)]
      show some (Addr.add ⟨b, off, none⟩ (k * s)) = _
      rw [Addr.add_lit]
    · rw [List.getElem?_drop] at hx
      have := hcl (k + i) x j u hx hu
      rw [Nat.add_mul, ← Nat.add_assoc off] at this
      exact this⟩
end Go.Proofs.Ytpjpegmjcgkonaa

namespace Go.Proofs.Ytpjpegmjcgkonaa
open Go

section
variable {P : Program} {ops : Array Oper} {Q : Exit → Act → World → Prop} {md : Region.Mode} {S : Array Bool → World → Prop}

/-- what has come up has not come up ahead of what it waits for -/
def ShutL (md : Region.Mode) (ops : Array Oper) (L : Array Bool) : Prop := ∀ k ok, ops[k]? = some ok → L.getD k false = true → ∀ e ∈ ok.after, Region.binds md e = true → L.getD e.on false = true
/-- whichever order is picked from here on; S of what has come up holds behind each -/
def wpAnyL (P : Program) (md : Region.Mode) (ops : Array Oper) (Q : Exit → Act → World → Prop) (S : Array Bool → World → Prop) : Nat → Array Bool → Act → World → Prop
  | 0, L, a, w => Region.ready md ops L = [] ∧ Q .normal a w
  | f + 1, L, a, w => (Region.ready md ops L = [] → Q .normal a w) ∧
      ∀ i ∈ Region.ready md ops L, wpOp P ops Q i (fun a' w' => S (L.setIfInBounds i true) w' ∧ wpAnyL P md ops Q S f (L.setIfInBounds i true) a' w') a w
theorem wpAny_of_L : ∀ (f : Nat) (L : Array Bool) (a : Act) (w : World), wpAnyL P md ops Q S f L a w → wpAny P md ops Q f L a w
  | 0, _, _, _, h => h
  | f + 1, _, _, _, h => ⟨h.1, fun i hi => wpOp_mono (fun a' w' h' => wpAny_of_L f _ a' w' h'.2) (h.2 i hi)⟩
/-- the worlds in which an operation that has not come up may come up -/
def SI (md : Region.Mode) (ops : Array Oper) (S : Array Bool → World → Prop) (i : Nat) (w : World) : Prop := ∃ L, ShutL md ops L ∧ L.getD i true = false ∧ S L w
theorem getD_set (L : Array Bool) (j k : Nat) (hne : j ≠ k) : (L.setIfInBounds j true).getD k true = L.getD k true := by
  simp [Array.getD_eq_getD_getElem?, hne]
theorem getF_set (L : Array Bool) (j k : Nat) (hne : j ≠ k) : (L.setIfInBounds j true).getD k false = L.getD k false := by
  simp [Array.getD_eq_getD_getElem?, hne]
theorem getF_on (L : Array Bool) (j : Nat) (h : j < L.size) : (L.setIfInBounds j true).getD j false = true := by
  simp [Array.getD_eq_getD_getElem?, h]
theorem ShutL.set {L : Array Bool} (h : ShutL md ops L) {j : Nat} (hj : j ∈ Region.ready md ops L) : ShutL md ops (L.setIfInBounds j true) := by
  intro k ok hk hl e he hb
  obtain ⟨hun, oj, hoj, hall⟩ := mem_ready.1 hj
  have hjs : j < L.size := by
    rcases Nat.lt_or_ge j L.size with h' | h'
    · exact h'
    · simp [Array.getElem?_eq_none h'] at hun
  have step : ∀ m, L.getD m false = true → (L.setIfInBounds j true).getD m false = true := fun m hm => by
    by_cases hjm : j = m
    · subst hjm; exact getF_on L j hjs
    · rw [getF_set L j m hjm]; exact hm
  by_cases hjk : j = k
  · subst hjk
    rw [hoj] at hk
    injection hk with hk
    subst hk
    apply step
    simpa using hall e he hb
  · rw [getF_set L j k hjk] at hl
    exact step _ (h k ok hk hl e he hb)
theorem ShutL.none (n : Nat) : ShutL md ops (Array.replicate n false) := by
  intro k ok _ hl
  simp only [Array.getD_eq_getD_getElem?, Array.getElem?_replicate] at hl
  split at hl <;> cases hl
theorem wpAnyL_first {i : Nat} {oi : Oper} {v : Value} (hi : ops[i]? = some oi) (hsel : ∀ (j : Nat) (o : Oper) cs b, ops[j]? = some o → o.op ≠ .select cs b)
    (hQ : ∀ c a w, Q (.panic c) (a.put oi.dst v) w → Q (.panic c) a w) (hSi : ∀ L w, S (L.setIfInBounds i true) w ↔ S L w) :
    ∀ (f : Nat) (L : Array Bool) (a : Act) (w : World),
      (∀ j oj, ops[j]? = some oj → j ≠ i → L.getD j true = false → (∀ e ∈ oj.after, Region.binds md e = true → e.on ≠ i) → oi.apart ops oj = true) →
      i ∈ Region.ready md ops L → ShutL md ops L → YieldsIf P ops (SI md ops S i) oi v a → S L w →
      wpAnyL P md ops Q S f (L.setIfInBounds i true) (a.put oi.dst v) w → wpAnyL P md ops Q S (f + 1) L a w := by
  intro f
  induction f with
  | zero =>
    intro L a w _ hr hc hy hS H
    refine ⟨fun h => (by rw [h] at hr; cases hr), fun j hj => ?_⟩
    by_cases hji : j = i
    · subst hji; exact hy.wpOp hi ⟨L, hc, (mem_ready.1 hr).1, hS⟩ ⟨(hSi L w).2 hS, H⟩
    · have := ready_mono hj hji
      rw [H.1] at this
      cases this
  | succ f ih =>
    intro L a w hfree hr hc hy hS H
    refine ⟨fun h => (by rw [h] at hr; cases hr), fun j hj => ?_⟩
    by_cases hji : j = i
    · subst hji; exact hy.wpOp hi ⟨L, hc, (mem_ready.1 hr).1, hS⟩ ⟨(hSi L w).2 hS, H⟩
    · have h1 := H.2 j (ready_mono hj hji)
      obtain ⟨hjun, oj, hoj, hall⟩ := mem_ready.1 hj
      have hnot : ∀ e ∈ oj.after, Region.binds md e = true → e.on ≠ i := fun e he hb heq => by
        have h1 := hall e he hb
        have h0 := (mem_ready.1 hr).1
        rw [heq] at h1
        rcases Nat.lt_or_ge i L.size with h' | h'
        · simp [h'] at h0 h1; rw [h0] at h1; cases h1
        · simp [Array.getElem?_eq_none h'] at h1
      have h2 := wpOp_putIf hoj (hfree j oj hoj hji hjun hnot) (fun cs b => hsel i oi cs b hi) (fun cs b => hsel j oj cs b hoj) hQ hy h1
      refine wpOp_mono (fun a' w' h3 => ?_) h2
      have hs3 : S (L.setIfInBounds j true) w' := by
        have q := h3.2.1
        rw [Array.setIfInBounds_comm _ _ (Ne.symm hji)] at q
        exact (hSi _ _).1 q
      refine ⟨hs3, ih (L.setIfInBounds j true) a' w' (fun k ok hk hki hun hno => ?_) (ready_mono hr (Ne.symm hji)) (hc.set hj) h3.1 hs3 ?_⟩
      · refine hfree k ok hk hki ?_ hno
        by_cases hjk : j = k
        · subst hjk; exact hjun
        · rw [getD_set L j k hjk] at hun; exact hun
      · rw [Array.setIfInBounds_comm _ _ hji]
        exact h3.2.2
/-- take number i first -/
theorem wpAnyL_take {i : Nat} {oi : Oper} {v : Value} {f : Nat} {L : Array Bool} {a : Act} {w : World} (hi : ops[i]? = some oi)
    (hs : Region.noSelect ops = true) (hf : Region.free md ops L i = true) (hr : (Region.ready md ops L).contains i = true)
    (hQ : ∀ c a w, Q (.panic c) (a.put oi.dst v) w → Q (.panic c) a w) (hSi : ∀ L w, S (L.setIfInBounds i true) w ↔ S L w) (hc : ShutL md ops L) (hy : YieldsIf P ops (SI md ops S i) oi v a) (hS : S L w)
    (h : ShutL md ops (L.setIfInBounds i true) → S (L.setIfInBounds i true) w → wpAnyL P md ops Q S f (L.setIfInBounds i true) (a.put oi.dst v) w) : wpAnyL P md ops Q S (f + 1) L a w :=
  wpAnyL_first hi (Region.noSelect_spec hs) hQ hSi f L a w (Region.free_spec hi hf) (by simpa using hr) hc hy hS (h (hc.set (by simpa using hr)) ((hSi _ _).2 hS))
/-- whichever of those that may come up comes up -/
theorem wpAnyL_all {rs : List Nat} {f : Nat} {L : Array Bool} {a : Act} {w : World} (hr : Region.ready md ops L = rs) (hne : rs ≠ []) (hc : ShutL md ops L)
    (h : ∀ i ∈ rs, wpOp P ops Q i (fun a' w' => S (L.setIfInBounds i true) w' ∧ (ShutL md ops (L.setIfInBounds i true) → wpAnyL P md ops Q S f (L.setIfInBounds i true) a' w')) a w) : wpAnyL P md ops Q S (f + 1) L a w :=
  ⟨fun h0 => absurd (hr ▸ h0) hne, fun i hi => wpOp_mono (fun _ _ q => ⟨q.1, q.2 (hc.set hi)⟩) (h i (hr ▸ hi))⟩
theorem wpAnyL_done {L : Array Bool} {a : Act} {w : World} (hr : Region.ready md ops L = []) (h : Q .normal a w) : ∀ f, wpAnyL P md ops Q S f L a w
  | 0 => ⟨hr, h⟩
  | _ + 1 => ⟨fun _ => h, by rw [hr]; simp⟩
theorem wp_region_L {id : Nat} {a : Act} {w : World} (hm : P.follows .mixedOrders = true)
    (h : wpAnyL P .any ops Q S ops.size (Array.replicate ops.size false) a { w with drawn := w.drawn + 1 }) : (Code.region id ops true).wp P Q a w :=
  wp_region_any hm (wpAny_of_L _ _ _ _ h)
end
end Go.Proofs.Ytpjpegmjcgkonaa

namespace Go.Proofs.Ytpjpegmjcgkonaa
open Go

section
variable {P : Program} {ops : Array Oper} {Q : Exit → Act → World → Prop} {md : Region.Mode} {S : Array Bool → World → Prop}
def AllReadyL (P : Program) (md : Region.Mode) (ops : Array Oper) (Q : Exit → Act → World → Prop) (S : Array Bool → World → Prop) (fuel : Nat) (L : Array Bool) (a : Act) (w : World) (rs : List Nat) : Prop :=
  ∀ i ∈ rs, wpOp P ops Q i (fun a' w' => S (L.setIfInBounds i true) w' ∧ (ShutL md ops (L.setIfInBounds i true) → wpAnyL P md ops Q S fuel (L.setIfInBounds i true) a' w')) a w
theorem AllReadyL.nil {fuel : Nat} {L : Array Bool} {a : Act} {w : World} : AllReadyL P md ops Q S fuel L a w [] := fun _ h => by cases h
theorem AllReadyL.cons {fuel : Nat} {L : Array Bool} {a : Act} {w : World} {i : Nat} {o : Oper} {rs : List Nat} (ho : ops[i]? = some o)
    (h : ∀ K' : Act → World → Prop, Shut (∀ a w, S (L.setIfInBounds i true) w → (ShutL md ops (L.setIfInBounds i true) → wpAnyL P md ops Q S fuel (L.setIfInBounds i true) a w) → K' a w) → if Region.wanted o (yielded ops a.tmps) = true then Oper.wp P o a w K' Q else K' (a.put o.dst undef) w)
    (hs : AllReadyL P md ops Q S fuel L a w rs) : AllReadyL P md ops Q S fuel L a w (i :: rs) := fun j hj => by
  rcases List.mem_cons.1 hj with rfl | hj
  · exact wpOp_step ho (fun K' hK => h K' (fun a w hS hW => hK a w ⟨hS, hW⟩))
  · exact hs j hj
theorem wpAnyL_ready {rs : List Nat} {fuel : Nat} {L : Array Bool} {a : Act} {w : World} (hr : Region.ready md ops L = rs) (hne : rs ≠ []) (hc : ShutL md ops L)
    (h : AllReadyL P md ops Q S fuel L a w rs) : wpAnyL P md ops Q S (fuel + 1) L a w := wpAnyL_all hr hne hc h
theorem wp_region_L_drew {id : Nat} {a : Act} {w : World} (hm : P.follows .mixedOrders = true) (hS : S (Array.replicate ops.size false) w.drew)
    (h : S (Array.replicate ops.size false) w.drew → ShutL .any ops (Array.replicate ops.size false) → wpAnyL P .any ops Q S ops.size (Array.replicate ops.size false) a w.drew) : (Code.region id ops true).wp P Q a w :=
  wp_region_L hm (h hS (ShutL.none _))
/-- k waits for i, in so many steps -/
def waits (md : Region.Mode) (ops : Array Oper) : Nat → Nat → Nat → Bool
  | 0, _, _ => false
  | f + 1, k, i => match ops[k]? with
    | some o => o.after.toList.any fun e => Region.binds md e && (e.on == i || waits md ops f e.on i)
    | none => false
theorem shut_of {L : Array Bool} (hs : ShutL md ops L) {i : Nat} (hi : L.getD i true = false) : ∀ (f k : Nat), waits md ops f k i = true → L.getD k false = false
  | 0, k, h => by simp [waits] at h
  | f + 1, k, h => by
    cases hk : L.getD k false with
    | false => rfl
    | true =>
      exfalso
      unfold waits at h
      split at h
      · next o ho =>
        obtain ⟨e, he, hb⟩ := List.any_eq_true.1 h
        rw [Bool.and_eq_true, Bool.or_eq_true] at hb
        have h1 := hs k o ho hk e (by simpa using he) hb.1
        rcases hb.2 with q | q
        · have : e.on = i := by simpa using q
          rw [this] at h1
          rw [Array.getD_eq_getD_getElem?] at h1 hi
          cases hq : L[i]? with
          | none => rw [hq] at hi; simp at hi
          | some b => rw [hq] at h1 hi; simp at h1 hi; rw [h1] at hi; cases hi
        · rw [shut_of hs hi f e.on q] at h1; cases h1
      · cases h
end
/-- two cells hold what they hold as long as the stores k1, k2 have not come up -/
structure SO (g1 o1 g2 o2 : Nat) (x1 x2 : Value) (k1 k2 : Nat) (L : Array Bool) (w : World) : Prop where
  one : L.getD k1 false = false → w.cell? ⟨g1, o1, none⟩ = some x1
  two : L.getD k2 false = false → w.cell? ⟨g2, o2, none⟩ = some x2
theorem SO.set {g1 o1 g2 o2 : Nat} {x1 x2 : Value} {k1 k2 i : Nat} (h1 : i ≠ k1) (h2 : i ≠ k2) (L : Array Bool) (w : World) : SO g1 o1 g2 o2 x1 x2 k1 k2 (L.setIfInBounds i true) w ↔ SO g1 o1 g2 o2 x1 x2 k1 k2 L w :=
  ⟨fun h => ⟨fun q => h.one (by rw [getF_set L i k1 h1]; exact q), fun q => h.two (by rw [getF_set L i k2 h2]; exact q)⟩,
   fun h => ⟨fun q => h.one (by rw [getF_set L i k1 h1] at q; exact q), fun q => h.two (by rw [getF_set L i k2 h2] at q; exact q)⟩⟩
end Go.Proofs.Ytpjpegmjcgkonaa

namespace Go.Proofs.Ytpjpegmjcgkonaa
open Go.RowKit

theorem run_appPo {α : Type} {f : α → List Value} {s : Nat} {w : World} {t e : TypeId} {z : Value} {bytes : Nat} (hu : Try.prog.underlying t = some (.slice e)) (hinfo : (Try.prog.info? e).map (fun i => (i.zero, i.size, i.bytes)) = some (some z, s, bytes)) (hz : z.cells.size = s) (hs0 : 0 < s) (hby : bytes ≤ 100)
    (hf : ∀ x, (f x).length = s) (h1 : ∀ x, ∀ u ∈ f x, u.oneCell' = true)
    (ty : TypeId) (base : Nat) (v : Value) (l : List α) (hown : OwX f s e w base v l) (b c : Nat) (x : α) (cs : Array Value) (T' : TypeId) (fr : Nat × Nat) (hb : w.heap[b]? = some (.cells cs T' fr)) (hcs : cs.toList = f x)
    (hm : l.length + 1 ≤ 1000000) (hbase : base ≤ w.heap.size) :
    ∃ v' w', (Builtin.append_ #[t, t] ty #[v, .slice (some ⟨b, 0, none⟩) 1 c]).run Try.prog w = .ok v' w' ∧ OwX f s e w' base v' (l ++ [x]) ∧ w.grownBy w' v.ownBlock ∧ (v'.ownBlock = v.ownBlock ∨ v'.ownBlock = some w.heap.size) := by
  obtain ⟨i0, hi, hz0, hz1, hz2⟩ := info_parts hinfo
  have hmul : (l.length + 1) * bytes ≤ 1000000 * 100 := Nat.mul_le_mul hm hby
  obtain ⟨v', w', hr, h2, h3, _, h5⟩ := run_append_own_at (P := Try.prog) w base t ty e i0 z s bytes hu hi hz0 hz1 hz2 hz hs0 v l.length (flat f l) hown ⟨b, 0, none⟩ 1 c (f x)
    (by rw [hf]; omega) (fun j u hj => by
      rw [Addr.add_lit, Nat.zero_add, cell_of_row _ _ _ _ _ _ hb]
      rw [← hcs] at hj
      simpa using hj) (h1 x) (by unfold maxLen; omega) (by omega) hbase
  refine ⟨v', w', hr, ?_, h3, h5⟩
  unfold OwX
  rw [List.length_append, flat_app, flat_one]
  exact h2
theorem step_appPo {α : Type} {f : α → List Value} {s : Nat} {ops : Array Oper} {o : Oper} {a : Act} {K : Act → World → Prop} {Q : Exit → Act → World → Prop} {E : Prop} {w : World} (hgd : o.guard = none) (sl xo : Operand) (t e : TypeId) (z : Value) (bytes : Nat)
    (ho : o.op = .call { callee := .builtin .append, args := #[sl, xo], argTypes := #[t, t] })
    (hu : Try.prog.underlying t = some (.slice e)) (hinfo : (Try.prog.info? e).map (fun i => (i.zero, i.size, i.bytes)) = some (some z, s, bytes)) (hz : z.cells.size = s) (hs0 : 0 < s) (hby : bytes ≤ 100)
    (hf : ∀ x, (f x).length = s) (h1 : ∀ x, ∀ u ∈ f x, u.oneCell' = true)
    (B : Nat) (w0 : World) (hb : Below B w0 w) (hB : B ≤ w.heap.size) (v : Value) (l : List α) (hs : a.eval sl = v) (hown : OwX f s e w B v l)
    (bn c : Nat) (x : α) (cs : Array Value) (T' : TypeId) (fr : Nat × Nat) (hx : a.eval xo = .slice (some ⟨bn, 0, none⟩) 1 c) (hbn : w.heap[bn]? = some (.cells cs T' fr)) (hcs : cs.toList = f x) (hm : l.length + 1 ≤ 1000000)
    (h : ∀ v' w', Hid (OwX f s e w' B v' (l ++ [x])) → Hid (Below B w0 w') → Hid (w.grownBy w' v.ownBlock) → Hid (v'.ownBlock = v.ownBlock ∨ v'.ownBlock = some w.heap.size) → K (a.put o.dst v') w') :
    if Region.wanted o (yielded ops a.tmps) = true then Oper.wp Try.prog o a w K Q else E := by
  have hw : Region.wanted o (yielded ops a.tmps) = true := by simp [Region.wanted, hgd]
  rw [if_pos hw]
  obtain ⟨v', w', hr, h2, h3, h5⟩ := run_appPo hu hinfo hz hs0 hby hf h1 o.type B v l hown bn c x cs T' fr hbn hcs hm hB
  unfold Oper.wp execOp
  simp only [ho, resolve, invoke, builtin, Sem.run_bind, Sem.run_pure, Result.andThen_ok, List.map_toArray, List.map_cons, List.map_nil, hs, hx, hr]
  exact h v' w' h2 (hb.grown h3 hB (fun k hk => (World.ownsRow.lt hown k hk).1)) h3 h5
end Go.Proofs.Ytpjpegmjcgkonaa

namespace Go.Proofs.Ytpjpegmjcgkonaa
open Go.RowKit Vi

theorem run_neq_fc_no (p1 : Int) (p2 p3 p4 : ByteArray) (W : World) :
    (binOp .neq 32 (.agg #[.int .i64 p1, .string p2, .string p3, .string p4]) (.agg #[.int .i64 p1, .string p2, .string p3, .string p4])).run Try.prog W = .ok (.bool false) W := by
  simp [go_sem]
set_option maxRecDepth 100000 in
set_option maxHeartbeats 2000000 in
theorem same27_yes (A : Option Addr) (n c : Nat) (l : List Fc) (A2 : Option Addr) (c2 : Nat) (w : World) (h : RdX fcC 4 w A n l) (h2 : RdX fcC 4 w A2 n l) (hn : n ≤ maxLen) :
    Calls Try.prog 12 #[.slice A n c, .slice A2 n c2] w fun e w' => e = .returned (.bool true) ∧ Below w.heap.size w w' := by
  have H := Lib.hid h
  have H2 := Lib.hid h2
  have L := Lib.hid h.1
  have HB1 := Lib.hid (Below.refl w.heap.size w)
  unfold maxLen at hn
  clear h h2
  have d1 : ((n : Int) != (n : Int)) = false := by simp
  go_enter Try.func12, Try.ntmps12
  go_wp2_with fail
  clear d1
  go_loopw [13] (fun i wr => ∃ k : Nat, i = .int .i64 (k : Int) ∧ k ≤ n ∧ Below w.heap.size w wr) (fun i _ => n - (intOf i).toNat)
  case atStart => exact ⟨0, rfl, Nat.zero_le _, HB1.out⟩
  case round =>
    clear HB1
    obtain ⟨k, rfl, hk, hb⟩ := hrel
    have HB := Lib.hid hb
    clear hb
    by_cases hlt : k < n
    · have hd1 : decide ((k : Int) < (n : Int)) = true := decide_eq_true (by omega)
      have hl : k < l.length := by rw [L.out]; exact hlt
      obtain ⟨b, off, _, rfl, hbb, _⟩ := (H.out.below HB.out).at hlt
      obtain ⟨b2, off2, _, rfl, hbb2, _⟩ := (H2.out.below HB.out).at hlt
      obtain ⟨x, hx⟩ : ∃ x, l[k] = x := ⟨_, rfl⟩
      have HX := Lib.hid (show l[k]? = some x by rw [List.getElem?_eq_getElem hl, hx])
      clear hx
      obtain ⟨x1, x2, x3, x4⟩ := x
      have hi0 : (0 : Int) ≤ (k : Int) := by omega
      have hnq := fun W => run_neq_fc_no x1 x2 x3 x4 W
      have hc101 : wr.cell? ⟨b, off + k * 4, none⟩ = some (.int .i64 x1) := (H.out.below HB.out).cellAt HX.out hlt 0 _ rfl
      have hc102 : wr.cell? ⟨b, off + k * 4 + 1, none⟩ = some (.string x2) := (H.out.below HB.out).cellAt HX.out hlt 1 _ rfl
      have hc103 : wr.cell? ⟨b, off + k * 4 + 2, none⟩ = some (.string x3) := (H.out.below HB.out).cellAt HX.out hlt 2 _ rfl
      have hc104 : wr.cell? ⟨b, off + k * 4 + 3, none⟩ = some (.string x4) := (H.out.below HB.out).cellAt HX.out hlt 3 _ rfl
      have hc105 : wr.cell? ⟨b2, off2 + k * 4, none⟩ = some (.int .i64 x1) := (H2.out.below HB.out).cellAt HX.out hlt 0 _ rfl
      have hc106 : wr.cell? ⟨b2, off2 + k * 4 + 1, none⟩ = some (.string x2) := (H2.out.below HB.out).cellAt HX.out hlt 1 _ rfl
      have hc107 : wr.cell? ⟨b2, off2 + k * 4 + 2, none⟩ = some (.string x3) := (H2.out.below HB.out).cellAt HX.out hlt 2 _ rfl
      have hc108 : wr.cell? ⟨b2, off2 + k * 4 + 3, none⟩ = some (.string x4) := (H2.out.below HB.out).cellAt HX.out hlt 3 _ rfl
      go_wp2_with fail
      have hr101 := fun d os => cell_regrown hc101 d os
      have hr102 := fun d os => cell_regrown hc102 d os
      have hr103 := fun d os => cell_regrown hc103 d os
      have hr104 := fun d os => cell_regrown hc104 d os
      have hr105 := fun d os => cell_regrown hc105 d os
      have hr106 := fun d os => cell_regrown hc106 d os
      have hr107 := fun d os => cell_regrown hc107 d os
      have hr108 := fun d os => cell_regrown hc108 d os
      refine wp_region_quiet_below (by kernel_rfl) (by kernel_rfl) ?_
      repeat (any_goals (first | go_big_quiet_step (fail) | quiet_step (fail)))
      refine wpQuiet_nil ?_
      intro w11 hw11
      have hb11 := below_anyY hw11
      clear hw11 hr101 hr102 hr103 hr104 hr105 hr106 hr107 hr108
      clear hc101 hc102 hc103 hc104 hc105 hc106 hc107 hc108
      have HB113 := Lib.hid (HB.out.trans (hb11.mono HB.out.size))
      clear hb11 HB
      go_wp2_with fail
      go_roundw
      case rel => exact ⟨k + 1, by go_num, by omega, HB113.out⟩
      case measure => simp [intOf] <;> omega
    · have hd1 : decide ((k : Int) < (n : Int)) = false := decide_eq_false (by omega)
      go_wp2_with fail
      go_ret
      exact ⟨rfl, HB.out⟩
end Go.Proofs.Ytpjpegmjcgkonaa
