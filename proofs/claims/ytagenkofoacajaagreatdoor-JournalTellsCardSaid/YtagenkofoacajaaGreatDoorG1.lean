/- Several texts of one family, merged for a claim. Conditions as in its parts. -/
import Derived.Test.YtagenkofoacajaaGreatDoorG0
import Derived.OrdersHeld
import Derived.Test.YtagenkofoacajaaGreatDoorProg
import Derived.Deep.RegionHeld3
import Derived.RangeFuncNested
import Derived.RangeFuncBound
import Derived.RangeFuncCalls
import Derived.RangeFuncLeaves
import Derived.Shelf.Abstract
import Derived.Shelf.RegionOpen
import Derived.WalkKit
import Derived.OwnWalkIn
import Derived.TacticsInMore
import Derived.LoopNIn
import Derived.LoopIn
namespace Go.Proofs.YtagenkofoacajaaGreatDoor
open Go.RowKit

theorem run_appPo {α : Type} {f : α → List Value} {s : Nat} {w : World} {t e : TypeId} {z : Value} {bytes : Nat} (hu : Tryz.prog.underlying t = some (.slice e)) (hinfo : (Tryz.prog.info? e).map (fun i => (i.zero, i.size, i.bytes)) = some (some z, s, bytes)) (hz : z.cells.size = s) (hs0 : 0 < s) (hby : bytes ≤ 100)
    (hf : ∀ x, (f x).length = s) (h1 : ∀ x, ∀ u ∈ f x, u.oneCell' = true)
    (ty : TypeId) (base : Nat) (v : Value) (l : List α) (hown : OwX f s e w base v l) (b c : Nat) (x : α) (cs : Array Value) (T' : TypeId) (fr : Nat × Nat) (hb : w.heap[b]? = some (.cells cs T' fr)) (hcs : cs.toList = f x)
    (hm : l.length + 1 ≤ 1000000) (hbase : base ≤ w.heap.size) :
    ∃ v' w', (Builtin.append_ #[t, t] ty #[v, .slice (some ⟨b, 0, none⟩) 1 c]).run Tryz.prog w = .ok v' w' ∧ OwX f s e w' base v' (l ++ [x]) ∧ w.grownBy w' v.ownBlock ∧ (v'.ownBlock = v.ownBlock ∨ v'.ownBlock = some w.heap.size) := by
  obtain ⟨i0, hi, hz0, hz1, hz2⟩ := info_parts hinfo
  have hmul : (l.length + 1) * bytes ≤ 1000000 * 100 := Nat.mul_le_mul hm hby
  obtain ⟨v', w', hr, h2, h3, _, h5⟩ := run_append_own_at (P := Tryz.prog) w base t ty e i0 z s bytes hu hi hz0 hz1 hz2 hz hs0 v l.length (flat f l) hown ⟨b, 0, none⟩ 1 c (f x)
    (by rw [hf]; omega) (fun j u hj => by
      rw [Addr.add_lit, Nat.zero_add, cell_of_row _ _ _ _ _ _ hb]
      rw [← hcs] at hj
      simpa using hj) (h1 x) (by unfold maxLen; omega) (by omega) hbase
  refine ⟨v', w', hr, ?_, h3, h5⟩
  unfold OwX
  rw [List.length_append, flat_app, flat_one]
  exact h2
theorem step_appPo {α : Type} {f : α → List Value} {s : Nat} {ops : Array Oper} {o : Oper} {a : Act} {K : Act → World → Prop} {Q : Exit → Act → World → Prop} {E : Prop} {w : World} (hgd : o.guard = none) (sl xo : Operand) (t e : TypeId) (z : Value) (bytes : Nat)
    (ho : o.op = .call { callee := .builtin .append, args := #[sl, xo], argTypes := #[t, t] })
    (hu : Tryz.prog.underlying t = some (.slice e)) (hinfo : (Tryz.prog.info? e).map (fun i => (i.zero, i.size, i.bytes)) = some (some z, s, bytes)) (hz : z.cells.size = s) (hs0 : 0 < s) (hby : bytes ≤ 100)
    (hf : ∀ x, (f x).length = s) (h1 : ∀ x, ∀ u ∈ f x, u.oneCell' = true)
    (B : Nat) (w0 : World) (hb : Below B w0 w) (hB : B ≤ w.heap.size) (v : Value) (l : List α) (hs : a.eval sl = v) (hown : OwX f s e w B v l)
    (bn c : Nat) (x : α) (cs : Array Value) (T' : TypeId) (fr : Nat × Nat) (hx : a.eval xo = .slice (some ⟨bn, 0, none⟩) 1 c) (hbn : w.heap[bn]? = some (.cells cs T' fr)) (hcs : cs.toList = f x) (hm : l.length + 1 ≤ 1000000)
    (h : ∀ v' w', Hid (OwX f s e w' B v' (l ++ [x])) → Hid (Below B w0 w') → Hid (w.grownBy w' v.ownBlock) → Hid (v'.ownBlock = v.ownBlock ∨ v'.ownBlock = some w.heap.size) → K (a.put o.dst v') w') :
    if Region.wanted o (yielded ops a.tmps) = true then Oper.wp Tryz.prog o a w K Q else E := by
  have hw : Region.wanted o (yielded ops a.tmps) = true := by simp [Region.wanted, hgd]
  rw [if_pos hw]
  obtain ⟨v', w', hr, h2, h3, h5⟩ := run_appPo hu hinfo hz hs0 hby hf h1 o.type B v l hown bn c x cs T' fr hbn hcs hm hB
  unfold Oper.wp execOp
  simp only [ho, resolve, invoke, builtin, Sem.run_bind, Sem.run_pure, Result.andThen_ok, List.map_toArray, List.map_cons, List.map_nil, hs, hx, hr]
  exact h v' w' h2 (hb.grown h3 hB (fun k hk => (World.ownsRow.lt hown k hk).1)) h3 h5
end Go.Proofs.YtagenkofoacajaaGreatDoor

namespace Go.Proofs.YtagenkofoacajaaGreatDoor
open Go

section
variable {P : Program} {ops : Array Oper} {Q : Exit → Act → World → Prop} {md : Region.Mode} {S : Array Bool → World → Prop}

/-- what has come up has not come up ahead of what it waits for -/
def ShutL (md : Region.Mode) (ops : Array Oper) (L : Array Bool) : Prop := ∀ k ok, ops[k]? = some ok → L.getD k false = true → ∀ e ∈ ok.after, Region.binds md e = true → L.getD e.on false = true
/-- whichever order is picked from here on; S of what has come up holds behind each -/
def wpAnyL (P : Program) (md : Region.Mode) (ops : Array Oper) (Q : Exit → Act → World → Prop) (S : Array Bool → World → Prop) : Nat → Array Bool → Act → World → Prop
  | 0, L, a, w => Region.ready md ops L = [] ∧ Q .normal a w
  | f + 1, L, a, w => (Region.ready md ops L = [] → Q .normal a w) ∧
      ∀ i ∈ Region.ready md ops L, wpOp P ops Q i (fun a' w' => S (L.setIfInBounds i true) w' ∧ wpAnyL P md ops Q S f (L.setIfInBounds i true) a' w') a w
theorem wpAny_of_L : ∀ (f : Nat) (L : Array Bool) (a : Act) (w : World), wpAnyL P md ops Q S f L a w → wpAny P md ops Q f L a w
  | 0, _, _, _, h => h
  | f + 1, _, _, _, h => ⟨h.1, fun i hi => wpOp_mono (fun a' w' h' => wpAny_of_L f _ a' w' h'.2) (h.2 i hi)⟩
/-- the worlds in which an operation that has not come up may come up -/
def SI (md : Region.Mode) (ops : Array Oper) (S : Array Bool → World → Prop) (i : Nat) (w : World) : Prop := ∃ L, ShutL md ops L ∧ L.getD i true = false ∧ S L w
theorem getD_set (L : Array Bool) (j k : Nat) (hne : j ≠ k) : (L.setIfInBounds j true).getD k true = L.getD k true := by
  simp [Array.getD_eq_getD_getElem?, hne]
theorem getF_set (L : Array Bool) (j k : Nat) (hne : j ≠ k) : (L.setIfInBounds j true).getD k false = L.getD k false := by
  simp [Array.getD_eq_getD_getElem?, hne]
theorem getF_on (L : Array Bool) (j : Nat) (h : j < L.size) : (L.setIfInBounds j true).getD j false = true := by
  simp [Array.getD_eq_getD_getElem?, h]
theorem ShutL.set {L : Array Bool} (h : ShutL md ops L) {j : Nat} (hj : j ∈ Region.ready md ops L) : ShutL md ops (L.setIfInBounds j true) := by
  intro k ok hk hl e he hb
  obtain ⟨hun, oj, hoj, hall⟩ := mem_ready.1 hj
  have hjs : j < L.size := by
    rcases Nat.lt_or_ge j L.size with h' | h'
    · exact h'
    · simp [Array.getElem?_eq_none h'] at hun
  have step : ∀ m, L.getD m false = true → (L.setIfInBounds j true).getD m false = true := fun m hm => by
    by_cases hjm : j = m
    · subst hjm; exact getF_on L j hjs
    · rw [getF_set L j m hjm]; exact hm
  by_cases hjk : j = k
  · subst hjk
    rw [hoj] at hk
    injection hk with hk
    subst hk
    apply step
    simpa using hall e he hb
  · rw [getF_set L j k hjk] at hl
    exact step _ (h k ok hk hl e he hb)
theorem ShutL.none (n : Nat) : ShutL md ops (Array.replicate n false) := by
  intro k ok _ hl
  simp only [Array.getD_eq_getD_getElem?, Array.getElem?_replicate] at hl
  split at hl <;> cases hl
theorem wpAnyL_first {i : Nat} {oi : Oper} {v : Value} (hi : ops[i]? = some oi) (hsel : ∀ (j : Nat) (o : Oper) cs b, ops[j]? = some o → o.op ≠ .select cs b)
    (hQ : ∀ c a w, Q (.panic c) (a.put oi.dst v) w → Q (.panic c) a w) (hSi : ∀ L w, S (L.setIfInBounds i true) w ↔ S L w) :
    ∀ (f : Nat) (L : Array Bool) (a : Act) (w : World),
      (∀ j oj, ops[j]? = some oj → j ≠ i → L.getD j true = false → (∀ e ∈ oj.after, Region.binds md e = true → e.on ≠ i) → oi.apart ops oj = true) →
      i ∈ Region.ready md ops L → ShutL md ops L → YieldsIf P ops (SI md ops S i) oi v a → S L w →
      wpAnyL P md ops Q S f (L.setIfInBounds i true) (a.put oi.dst v) w → wpAnyL P md ops Q S (f + 1) L a w := by
  intro f
  induction f with
  | zero =>
    intro L a w _ hr hc hy hS H
    refine ⟨fun h => (by rw [h] at hr; cases hr), fun j hj => ?_⟩
    by_cases hji : j = i
    · subst hji; exact hy.wpOp hi ⟨L, hc, (mem_ready.1 hr).1, hS⟩ ⟨(hSi L w).2 hS, H⟩
    · have := ready_mono hj hji
      rw [H.1] at this
      cases this
  | succ f ih =>
    intro L a w hfree hr hc hy hS H
    refine ⟨fun h => (by rw [h] at hr; cases hr), fun j hj => ?_⟩
    by_cases hji : j = i
    · subst hji; exact hy.wpOp hi ⟨L, hc, (mem_ready.1 hr).1, hS⟩ ⟨(hSi L w).2 hS, H⟩
    · have h1 := H.2 j (ready_mono hj hji)
      obtain ⟨hjun, oj, hoj, hall⟩ := mem_ready.1 hj
      have hnot : ∀ e ∈ oj.after, Region.binds md e = true → e.on ≠ i := fun e he hb heq => by
        have h1 := hall e he hb
        have h0 := (mem_ready.1 hr).1
        rw [heq] at h1
        rcases Nat.lt_or_ge i L.size with h' | h'
        · simp [h'] at h0 h1; rw [h0] at h1; cases h1
        · simp [Array.getElem?_eq_none h'] at h1
      have h2 := wpOp_putIf hoj (hfree j oj hoj hji hjun hnot) (fun cs b => hsel i oi cs b hi) (fun cs b => hsel j oj cs b hoj) hQ hy h1
      refine wpOp_mono (fun a' w' h3 => ?_) h2
      have hs3 : S (L.setIfInBounds j true) w' := by
        have q := h3.2.1
        rw [Array.setIfInBounds_comm _ _ (Ne.symm hji)] at q
        exact (hSi _ _).1 q
      refine ⟨hs3, ih (L.setIfInBounds j true) a' w' (fun k ok hk hki hun hno => ?_) (ready_mono hr (Ne.symm hji)) (hc.set hj) h3.1 hs3 ?_⟩
      · refine hfree k ok hk hki ?_ hno
        by_cases hjk : j = k
        · subst hjk; exact hjun
        · rw [getD_set L j k hjk] at hun; exact hun
      · rw [Array.setIfInBounds_comm _ _ hji]
        exact h3.2.2
/-- take number i first -/
theorem wpAnyL_take {i : Nat} {oi : Oper} {v : Value} {f : Nat} {L : Array Bool} {a : Act} {w : World} (hi : ops[i]? = some oi)
    (hs : Region.noSelect ops = true) (hf : Region.free md ops L i = true) (hr : (Region.ready md ops L).contains i = true)
    (hQ : ∀ c a w, Q (.panic c) (a.put oi.dst v) w → Q (.panic c) a w) (hSi : ∀ L w, S (L.setIfInBounds i true) w ↔ S L w) (hc : ShutL md ops L) (hy : YieldsIf P ops (SI md ops S i) oi v a) (hS : S L w)
    (h : ShutL md ops (L.setIfInBounds i true) → S (L.setIfInBounds i true) w → wpAnyL P md ops Q S f (L.setIfInBounds i true) (a.put oi.dst v) w) : wpAnyL P md ops Q S (f + 1) L a w :=
  wpAnyL_first hi (Region.noSelect_spec hs) hQ hSi f L a w (Region.free_spec hi hf) (by simpa using hr) hc hy hS (h (hc.set (by simpa using hr)) ((hSi _ _).2 hS))
/-- whichever of those that may come up comes up -/
theorem wpAnyL_all {rs : List Nat} {f : Nat} {L : Array Bool} {a : Act} {w : World} (hr : Region.ready md ops L = rs) (hne : rs ≠ []) (hc : ShutL md ops L)
    (h : ∀ i ∈ rs, wpOp P ops Q i (fun a' w' => S (L.setIfInBounds i true) w' ∧ (ShutL md ops (L.setIfInBounds i true) → wpAnyL P md ops Q S f (L.setIfInBounds i true) a' w')) a w) : wpAnyL P md ops Q S (f + 1) L a w :=
  ⟨fun h0 => absurd (hr ▸ h0) hne, fun i hi => wpOp_mono (fun _ _ q => ⟨q.1, q.2 (hc.set hi)⟩) (h i (hr ▸ hi))⟩
theorem wpAnyL_done {L : Array Bool} {a : Act} {w : World} (hr : Region.ready md ops L = []) (h : Q .normal a w) : ∀ f, wpAnyL P md ops Q S f L a w
  | 0 => ⟨hr, h⟩
  | _ + 1 => ⟨fun _ => h, by rw [hr]; simp⟩
theorem wp_region_L {id : Nat} {a : Act} {w : World} (hm : P.follows .mixedOrders = true)
    (h : wpAnyL P .any ops Q S ops.size (Array.replicate ops.size false) a { w with drawn := w.drawn + 1 }) : (Code.region id ops true).wp P Q a w :=
  wp_region_any hm (wpAny_of_L _ _ _ _ h)
end
end Go.Proofs.YtagenkofoacajaaGreatDoor

namespace Go.Proofs.YtagenkofoacajaaGreatDoor
open Go

section
variable {P : Program} {ops : Array Oper} {Q : Exit → Act → World → Prop} {md : Region.Mode} {S : Array Bool → World → Prop}
def AllReadyL (P : Program) (md : Region.Mode) (ops : Array Oper) (Q : Exit → Act → World → Prop) (S : Array Bool → World → Prop) (fuel : Nat) (L : Array Bool) (a : Act) (w : World) (rs : List Nat) : Prop :=
  ∀ i ∈ rs, wpOp P ops Q i (fun a' w' => S (L.setIfInBounds i true) w' ∧ (ShutL md ops (L.setIfInBounds i true) → wpAnyL P md ops Q S fuel (L.setIfInBounds i true) a' w')) a w
theorem AllReadyL.nil {fuel : Nat} {L : Array Bool} {a : Act} {w : World} : AllReadyL P md ops Q S fuel L a w [] := fun _ h => by cases h
theorem AllReadyL.cons {fuel : Nat} {L : Array Bool} {a : Act} {w : World} {i : Nat} {o : Oper} {rs : List Nat} (ho : ops[i]? = some o)
    (h : ∀ K' : Act → World → Prop, Shut (∀ a w, S (L.setIfInBounds i true) w → (ShutL md ops (L.setIfInBounds i true) → wpAnyL P md ops Q S fuel (L.setIfInBounds i true) a w) → K' a w) → if Region.wanted o (yielded ops a.tmps) = true then Oper.wp P o a w K' Q else K' (a.put o.dst undef) w)
    (hs : AllReadyL P md ops Q S fuel L a w rs) : AllReadyL P md ops Q S fuel L a w (i :: rs) := fun j hj => by
  rcases List.mem_cons.1 hj with rfl | hj
  · exact wpOp_step ho (fun K' hK => h K' (fun a w hS hW => hK a w ⟨hS, hW⟩))
  · exact hs j hj
theorem wpAnyL_ready {rs : List Nat} {fuel : Nat} {L : Array Bool} {a : Act} {w : World} (hr : Region.ready md ops L = rs) (hne : rs ≠ []) (hc : ShutL md ops L)
    (h : AllReadyL P md ops Q S fuel L a w rs) : wpAnyL P md ops Q S (fuel + 1) L a w := wpAnyL_all hr hne hc h
theorem wp_region_L_drew {id : Nat} {a : Act} {w : World} (hm : P.follows .mixedOrders = true) (hS : S (Array.replicate ops.size false) w.drew)
    (h : S (Array.replicate ops.size false) w.drew → ShutL .any ops (Array.replicate ops.size false) → wpAnyL P .any ops Q S ops.size (Array.replicate ops.size false) a w.drew) : (Code.region id ops true).wp P Q a w :=
  wp_region_L hm (h hS (ShutL.none _))
/-- k waits for i, in so many steps -/
def waits (md : Region.Mode) (ops : Array Oper) : Nat → Nat → Nat → Bool
  | 0, _, _ => false
  | f + 1, k, i => match ops[k]? with
    | some o => o.after.toList.any fun e => Region.binds md e && (e.on == i || waits md ops f e.on i)
    | none => false
theorem shut_of {L : Array Bool} (hs : ShutL md ops L) {i : Nat} (hi : L.getD i true = false) : ∀ (f k : Nat), waits md ops f k i = true → L.getD k false = false
  | 0, k, h => by simp [waits] at h
  | f + 1, k, h => by
    cases hk : L.getD k false with
    | false => rfl
    | true =>
      exfalso
      unfold waits at h
      split at h
      · next o ho =>
        obtain ⟨e, he, hb⟩ := List.any_eq_true.1 h
        rw [Bool.and_eq_true, Bool.or_eq_true] at hb
        have h1 := hs k o ho hk e (by simpa using he) hb.1
        rcases hb.2 with q | q
        · have : e.on = i := by simpa using q
          rw [this] at h1
          rw [Array.getD_eq_getD_getElem?] at h1 hi
          cases hq : L[i]? with
          | none => rw [hq] at hi; simp at hi
          | some b => rw [hq] at h1 hi; simp at h1 hi; rw [h1] at hi; cases hi
        · rw [shut_of hs hi f e.on q] at h1; cases h1
      · cases h
end
/-- two cells hold what they hold as long as the stores k1, k2 have not come up -/
structure SO (g1 o1 g2 o2 : Nat) (x1 x2 : Value) (k1 k2 : Nat) (L : Array Bool) (w : World) : Prop where
  one : L.getD k1 false = false → w.cell? ⟨g1, o1, none⟩ = some x1
  two : L.getD k2 false = false → w.cell? ⟨g2, o2, none⟩ = some x2
theorem SO.set {g1 o1 g2 o2 : Nat} {x1 x2 : Value} {k1 k2 i : Nat} (h1 : i ≠ k1) (h2 : i ≠ k2) (L : Array Bool) (w : World) : SO g1 o1 g2 o2 x1 x2 k1 k2 (L.setIfInBounds i true) w ↔ SO g1 o1 g2 o2 x1 x2 k1 k2 L w :=
  ⟨fun h => ⟨fun q => h.one (by rw [getF_set L i k1 h1]; exact q), fun q => h.two (by rw [getF_set L i k2 h2]; exact q)⟩,
   fun h => ⟨fun q => h.one (by rw [getF_set L i k1 h1] at q; exact q), fun q => h.two (by rw [getF_set L i k2 h2] at q; exact q)⟩⟩
end Go.Proofs.YtagenkofoacajaaGreatDoor

namespace Go.Proofs.YtagenkofoacajaaGreatDoor
open Go.RowKit Vi

/-- where a row that a struct was appended to lies -/
theorem OwX.sl0 {α : Type} {f : α → List Value} {s : Nat} {T : TypeId} {w : World} {B : Nat} {A : Option Addr} {n c : Nat} {l : List α} (h : OwX f s T w B (.slice A n c) l) : ∀ b o, A = some ⟨b, o, none⟩ → (Value.slice A n c).ownBlock = some b := by
  intro b o e
  rcases h.2 with ⟨q, _⟩ | ⟨g, _, _, q, _⟩
  · injection q with q _ _
    rw [e] at q; cases q
  · subst e
    rfl
theorem kd_app {D : Nat} {sa : Option Addr} {sn sc : Nat} {ca : Option Addr} {cn cc : Nat} {mk dn : Bool} {ops fu : Int} {A : Option Addr} {n c : Nat} {mk' dn' : Bool} {ops' fu' : Int} {w v w7 w8 : World} (_ : D < w.heap.size)
    (h : w.heap[D]? = some (dkO sa sn sc ca cn cc mk dn ops fu)) (h8 : w8.heap[D]? = some (dkO sa sn sc A n c mk' dn' ops' fu')) (hb : Below w.heap.size w v) (hg : v.grownBy w7 (Value.slice ca cn cc).ownBlock) (hk : KK [D] w7 w8)
    (how : ∀ g, (Value.slice ca cn cc).ownBlock = some g → ∃ o, ca = some ⟨g, o, none⟩) (ha : (Value.slice A n c).ownBlock = (Value.slice ca cn cc).ownBlock ∨ (Value.slice A n c).ownBlock = some v.heap.size) (hs : ∀ b o, A = some ⟨b, o, none⟩ → (Value.slice A n c).ownBlock = some b) : Kd D w w8 := by
  have hv := hb.size
  refine ⟨hk.os.trans (hg.os.trans hb.os), hk.tape.trans (hg.tape.trans hb.tape), hk.output.trans (hg.output.trans hb.output), Nat.le_trans hv (Nat.le_trans hg.size hk.size), fun b hbl hn => ?_, fun b hbl q => ?_⟩
  · rw [hk.block b (Nat.lt_of_lt_of_le hbl (Nat.le_trans hv hg.size)) (fun e => hn (by obtain rfl : b = D := (by simpa using e); exact .inl rfl))]
    rw [hg.block b (Nat.lt_of_lt_of_le hbl hv) (fun e => by
      obtain ⟨o, q⟩ := how b (by first | exact e | exact e.symm)
      subst q
      exact hn (InD.cache h))]
    exact hb.block b hbl
  · rcases q.cases h8 with q | ⟨o, q⟩ | ⟨o, q⟩
    · subst q; exact .inl rfl
    · subst q; exact InD.safe h
    · have e := hs b o q
      rcases ha with ha | ha
      · rw [e] at ha
        obtain ⟨o2, q2⟩ := how b ha.symm
        subst q2
        exact InD.cache h
      · rw [e] at ha
        injection ha with ha
        omega
structure SW (X I Z D : Nat) (i : Int) (s : ByteArray) (u : Value) (L : Array Bool) (W : World) : Prop where
  x : W.cell? ⟨X, 0, none⟩ = some (.pointer (some ⟨D, 0, none⟩))
  n : W.cell? ⟨I, 0, none⟩ = some (.int .i64 i)
  z : W.cell? ⟨Z, 0, none⟩ = some (.string s)
  c : L.getD 14 false = false → W.cell? ⟨D, 1, none⟩ = some u
theorem SW.set {X I Z D : Nat} {i : Int} {s : ByteArray} {u : Value} {j : Nat} (h1 : j ≠ 14) (L : Array Bool) (w : World) : SW X I Z D i s u (L.setIfInBounds j true) w ↔ SW X I Z D i s u L w :=
  ⟨fun h => ⟨h.x, h.n, h.z, fun q => h.c (by rw [getF_set L j 14 h1]; exact q)⟩, fun h => ⟨h.x, h.n, h.z, fun q => h.c (by rw [getF_set L j 14 h1] at q; exact q)⟩⟩
theorem SW.cOf {md : Region.Mode} {ops : Array Oper} {X I Z D : Nat} {i : Int} {s : ByteArray} {u : Value} {j : Nat} {w : World} (h : SI md ops (SW X I Z D i s u) j w) (f : Nat) (hw : waits md ops f 14 j = true) : w.cell? ⟨D, 1, none⟩ = some u := by
  obtain ⟨L, hs, hi, hS⟩ := h
  exact hS.c (shut_of hs hi f 14 hw)
theorem SW.all {md : Region.Mode} {ops : Array Oper} {X I Z D : Nat} {i : Int} {s : ByteArray} {u : Value} {j : Nat} {w : World} (h : SI md ops (SW X I Z D i s u) j w) : w.cell? ⟨X, 0, none⟩ = some (.pointer (some ⟨D, 0, none⟩)) ∧ w.cell? ⟨I, 0, none⟩ = some (.int .i64 i) ∧ w.cell? ⟨Z, 0, none⟩ = some (.string s) := by
  obtain ⟨L, _, _, hS⟩ := h
  exact ⟨hS.x, hS.n, hS.z⟩
set_option maxRecDepth 100000 in
set_option maxHeartbeats 4000000 in
theorem dwrite1 (X I Z D : Nat) (SS : List ByteArray) (CC : List Wr) (dn : Bool) (ops fu : Int) (i : Int) (s : ByteArray) (w : World) (h : DK D SS CC dn ops fu w) (hx : w.heap[X]? = some (.cells #[.pointer (some ⟨D, 0, none⟩)] 31 (0, 0))) (hi : w.heap[I]? = some (.cells #[.int .i64 i] 3 (0, 0))) (hz : w.heap[Z]? = some (.cells #[.string s] 9 (0, 0)))
    (hok : 0 ≤ i ∧ i < (SS.length : Int) ∧ s.size = 128) (hl : CC.length + 1 ≤ 1000000) :
    Calls Tryz.prog 69 #[.pointer (some ⟨X, 0, none⟩), .pointer (some ⟨I, 0, none⟩), .pointer (some ⟨Z, 0, none⟩)] w fun e w' => e = .returned (.tuple #[]) ∧ DK D SS (CC ++ [(i, s)]) dn ops fu w' ∧ Kd D w w' := by
  obtain ⟨⟨sa, sn, sc, ca, cn, cc, h1, h2, h3⟩, h4⟩ := h
  have H1 := Lib.hid h1
  have H2 := Lib.hid h2
  have H3 := Lib.hid h3
  have H4 := Lib.hid h4
  have HX := Lib.hid hx
  have HI := Lib.hid hi
  have HZ := Lib.hid hz
  have HOK := Lib.hid hok
  have HX1 := Lib.hid (blk_alloc (show w.drew.heap[X]? = _ from hx) (.cells #[.int .i64 i, .string s] 111 (0, 0)))
  have HI1 := Lib.hid (blk_alloc (show w.drew.heap[I]? = _ from hi) (.cells #[.int .i64 i, .string s] 111 (0, 0)))
  have HZ1 := Lib.hid (blk_alloc (show w.drew.heap[Z]? = _ from hz) (.cells #[.int .i64 i, .string s] 111 (0, 0)))
  have HD1 := Lib.hid (blk_alloc (show w.drew.heap[D]? = _ from h1) (.cells #[.int .i64 i, .string s] 111 (0, 0)))
  have HS1 := Lib.hid (h2.drew.alloc (.cells #[.int .i64 i, .string s] 111 (0, 0)))
  have HC1 := Lib.hid (h3.drew.alloc (.cells #[.int .i64 i, .string s] 111 (0, 0)))
  have HBn := Lib.hid (((Below.refl w.heap.size w).drew).alloc (Nat.le_refl _) (.cells #[.int .i64 i, .string s] 111 (0, 0)))
  have hDl := lt_of_block h1
  have HOW := Lib.hid (fun (g : Nat) (e : (Value.slice ca cn cc).ownBlock = some g) => show ∃ o, ca = some ⟨g, o, none⟩ from by
    rcases h3.2 with ⟨q, _⟩ | ⟨g', _, _, q, _⟩
    · rw [q] at e; simp [Value.ownBlock] at e
    · injection q with q1 _ _
      subst q1
      simp [Value.ownBlock] at e
      subst e
      exact ⟨0, rfl⟩)
  clear h1 h2 h3 h4 hx hi hz hok
  go_enter Tryz.func69, Tryz.ntmps69
  go_upto_region 0 with (fail)
  refine wp_region_L_drew (S := SW X I Z D i s (.slice ca cn cc)) (by kernel_rfl) ⟨(cell_of_row _ _ 0 _ _ _ HX.out).trans rfl, (cell_of_row _ _ 0 _ _ _ HI.out).trans rfl, (cell_of_row _ _ 0 _ _ _ HZ.out).trans rfl, fun _ => (dk_cells H1.out).2.1⟩ (fun hS hC => ?_)
  refine wpAnyL_take (i := 0) (oi := { dst := some 3, op := .load 31 (.tmp 0), type := _, pos := _, after := _, guard := none }) (v := ?_) rfl (by kernel_rfl) (by kernel_rfl) (by kernel_rfl) (fun _ _ _ h => h) (SW.set (by decide)) hC (Or.inl ⟨by rfl, ?_⟩) hS (fun hC hS => ?_)
  rotate_left
  · intro W9 hSw; have q0 := (SW.all hSw).1; go_simp; try (with_reducible rfl)
  try simp only [Act.put, List.setIfInBounds_toArray, List.set_cons_zero, List.set_cons_succ]
  refine wpAnyL_take (i := 1) (oi := { dst := some 4, op := .load 31 (.tmp 0), type := _, pos := _, after := _, guard := none }) (v := ?_) rfl (by kernel_rfl) (by kernel_rfl) (by kernel_rfl) (fun _ _ _ h => h) (SW.set (by decide)) hC (Or.inl ⟨by rfl, ?_⟩) hS (fun hC hS => ?_)
  rotate_left
  · intro W9 hSw; have q0 := (SW.all hSw).1; go_simp; try (with_reducible rfl)
  try simp only [Act.put, List.setIfInBounds_toArray, List.set_cons_zero, List.set_cons_succ]
  refine wpAnyL_take (i := 2) (oi := { dst := some 5, op := .nilCheck (.tmp 4), type := _, pos := _, after := _, guard := none }) (v := ?_) rfl (by kernel_rfl) (by kernel_rfl) (by kernel_rfl) (fun _ _ _ h => h) (SW.set (by decide)) hC (Or.inl ⟨by rfl, ?_⟩) hS (fun hC hS => ?_)
  rotate_left
  · intro W9 hSw; skip; go_simp; try (with_reducible rfl)
  try simp only [Act.put, List.setIfInBounds_toArray, List.set_cons_zero, List.set_cons_succ]
  refine wpAnyL_take (i := 3) (oi := { dst := some 6, op := .fieldAddr 44 (.tmp 5) 0, type := _, pos := _, after := _, guard := none }) (v := ?_) rfl (by kernel_rfl) (by kernel_rfl) (by kernel_rfl) (fun _ _ _ h => h) (SW.set (by decide)) hC (Or.inl ⟨by rfl, ?_⟩) hS (fun hC hS => ?_)
  rotate_left
  · intro W9 hSw; skip; go_simp; try (with_reducible rfl)
  try simp only [Act.put, List.setIfInBounds_toArray, List.set_cons_zero, List.set_cons_succ]
  refine wpAnyL_take (i := 4) (oi := { dst := some 7, op := .fieldAddr 42 (.tmp 6) 1, type := _, pos := _, after := _, guard := none }) (v := ?_) rfl (by kernel_rfl) (by kernel_rfl) (by kernel_rfl) (fun _ _ _ h => h) (SW.set (by decide)) hC (Or.inl ⟨by rfl, ?_⟩) hS (fun hC hS => ?_)
  rotate_left
  · intro W9 hSw; skip; go_simp; try (with_reducible rfl)
  try simp only [Act.put, List.setIfInBounds_toArray, List.set_cons_zero, List.set_cons_succ]
  refine wpAnyL_take (i := 5) (oi := { dst := some 8, op := .load 40 (.tmp 7), type := _, pos := _, after := _, guard := none }) (v := ?_) rfl (by kernel_rfl) (by kernel_rfl) (by kernel_rfl) (fun _ _ _ h => h) (SW.set (by decide)) hC (Or.inl ⟨by rfl, ?_⟩) hS (fun hC hS => ?_)
  rotate_left
  · intro W9 hSw; have q0 := SW.cOf hSw 15 (by kernel_rfl); go_simp; try (with_reducible rfl)
  try simp only [Act.put, List.setIfInBounds_toArray, List.set_cons_zero, List.set_cons_succ]
  refine wpAnyL_take (i := 6) (oi := { dst := some 9, op := .load 3 (.tmp 1), type := _, pos := _, after := _, guard := none }) (v := ?_) rfl (by kernel_rfl) (by kernel_rfl) (by kernel_rfl) (fun _ _ _ h => h) (SW.set (by decide)) hC (Or.inl ⟨by rfl, ?_⟩) hS (fun hC hS => ?_)
  rotate_left
  · intro W9 hSw; have q0 := (SW.all hSw).2.1; go_simp; try (with_reducible rfl)
  try simp only [Act.put, List.setIfInBounds_toArray, List.set_cons_zero, List.set_cons_succ]
  refine wpAnyL_take (i := 7) (oi := { dst := some 10, op := .load 9 (.tmp 2), type := _, pos := _, after := _, guard := none }) (v := ?_) rfl (by kernel_rfl) (by kernel_rfl) (by kernel_rfl) (fun _ _ _ h => h) (SW.set (by decide)) hC (Or.inl ⟨by rfl, ?_⟩) hS (fun hC hS => ?_)
  rotate_left
  · intro W9 hSw; have q0 := (SW.all hSw).2.2; go_simp; try (with_reducible rfl)
  try simp only [Act.put, List.setIfInBounds_toArray, List.set_cons_zero, List.set_cons_succ]
  refine wpAnyL_take (i := 8) (oi := { dst := some 11, op := .build 111 #[(0, .tmp 9), (1, .tmp 10)], type := _, pos := _, after := _, guard := none }) (v := ?_) rfl (by kernel_rfl) (by kernel_rfl) (by kernel_rfl) (fun _ _ _ h => h) (SW.set (by decide)) hC (Or.inl ⟨by rfl, ?_⟩) hS (fun hC hS => ?_)
  rotate_left
  · intro W9 hSw; skip; go_simp; try (with_reducible rfl)
  try simp only [Act.put, List.setIfInBounds_toArray, List.set_cons_zero, List.set_cons_succ]
  refine wpAnyL_ready (rs := [9]) (by kernel_rfl) (by simp) hC ?_
  refine AllReadyL.cons (o := { dst := some 12, op := .buildSlice 40 1 #[(0, .tmp 11)], type := _, pos := _, after := _, guard := none }) rfl (fun K9 hK => ?_) ?_
  · skip
    go_simp
    refine hK _ _ ⟨(cell_of_row _ _ 0 _ _ _ HX1.out).trans rfl, (cell_of_row _ _ 0 _ _ _ HI1.out).trans rfl, (cell_of_row _ _ 0 _ _ _ HZ1.out).trans rfl, fun _ => (dk_cells HD1.out).2.1⟩ (fun hC => ?_)
    clear hK K9
    try simp only [Act.put, List.setIfInBounds_toArray, List.set_cons_zero, List.set_cons_succ]
    refine wpAnyL_ready (rs := [10]) (by kernel_rfl) (by simp) hC ?_
    refine AllReadyL.cons (o := { dst := some 13, op := .call { callee := .builtin .append, args := #[.tmp 8, .tmp 12], argTypes := #[40, 40] }, type := _, pos := _, after := _, guard := none }) rfl (fun K9 hK => ?_) ?_
    · skip
      refine step_appPo rfl (.tmp 8) (.tmp 12) 40 111 _ 24 rfl Tryz.underlying40 info_wrB rfl (by omega) (by omega) wrC_len wrC_one 0 w (HBn.out.mono (Nat.zero_le _)) (Nat.zero_le _) (.slice ca cn cc) CC rfl HC1.out w.heap.size 1 (i, s) #[.int .i64 i, .string s] 111 (0, 0) rfl (heap_alloc_new w.drew _) rfl hl ?_
      intro v7 w7 HO7 HB7 HG7 HA7
      have HX7 := Lib.hid (HC1.out.box HG7.out HX1.out (Or.inl (by decide)))
      have HI7 := Lib.hid (HC1.out.box HG7.out HI1.out (Or.inl (by decide)))
      have HZ7 := Lib.hid (HC1.out.box HG7.out HZ1.out (Or.inl (by decide)))
      have HD7 := Lib.hid (HC1.out.box HG7.out HD1.out (Or.inl (by decide)))
      have HS7 := Lib.hid (HS1.out.other HC1.out (by decide) HG7.out)
      have z7 : w7.frozen? ⟨D, 1, none⟩ = false := frozen_of_row _ _ _ _ _ HD7.out
      have q7 : w7.cell? ⟨D, 1, none⟩ = some (.slice ca cn cc) := (dk_cells HD7.out).2.1
      obtain ⟨A7, n7, c7, rfl⟩ := HO7.out.sl3
      refine hK _ _ ⟨(cell_of_row _ _ 0 _ _ _ HX7.out).trans rfl, (cell_of_row _ _ 0 _ _ _ HI7.out).trans rfl, (cell_of_row _ _ 0 _ _ _ HZ7.out).trans rfl, fun _ => q7⟩ (fun hC => ?_)
      clear hK K9
      try simp only [Act.put, List.setIfInBounds_toArray, List.set_cons_zero, List.set_cons_succ]
      refine wpAnyL_take (i := 11) (oi := { dst := some 14, op := .nilCheck (.tmp 3), type := _, pos := _, after := _, guard := none }) (v := ?_) rfl (by kernel_rfl) (by kernel_rfl) (by kernel_rfl) (fun _ _ _ h => h) (SW.set (by decide)) hC (Or.inl ⟨by rfl, ?_⟩) ⟨(cell_of_row _ _ 0 _ _ _ HX7.out).trans rfl, (cell_of_row _ _ 0 _ _ _ HI7.out).trans rfl, (cell_of_row _ _ 0 _ _ _ HZ7.out).trans rfl, fun _ => q7⟩ (fun hC hS => ?_)
      rotate_left
      · intro W9 hSw; skip; go_simp; try (with_reducible rfl)
      try simp only [Act.put, List.setIfInBounds_toArray, List.set_cons_zero, List.set_cons_succ]
      refine wpAnyL_take (i := 12) (oi := { dst := some 15, op := .fieldAddr 44 (.tmp 14) 0, type := _, pos := _, after := _, guard := none }) (v := ?_) rfl (by kernel_rfl) (by kernel_rfl) (by kernel_rfl) (fun _ _ _ h => h) (SW.set (by decide)) hC (Or.inl ⟨by rfl, ?_⟩) ⟨(cell_of_row _ _ 0 _ _ _ HX7.out).trans rfl, (cell_of_row _ _ 0 _ _ _ HI7.out).trans rfl, (cell_of_row _ _ 0 _ _ _ HZ7.out).trans rfl, fun _ => q7⟩ (fun hC hS => ?_)
      rotate_left
      · intro W9 hSw; skip; go_simp; try (with_reducible rfl)
      try simp only [Act.put, List.setIfInBounds_toArray, List.set_cons_zero, List.set_cons_succ]
      refine wpAnyL_take (i := 13) (oi := { dst := some 16, op := .fieldAddr 42 (.tmp 15) 1, type := _, pos := _, after := _, guard := none }) (v := ?_) rfl (by kernel_rfl) (by kernel_rfl) (by kernel_rfl) (fun _ _ _ h => h) (SW.set (by decide)) hC (Or.inl ⟨by rfl, ?_⟩) ⟨(cell_of_row _ _ 0 _ _ _ HX7.out).trans rfl, (cell_of_row _ _ 0 _ _ _ HI7.out).trans rfl, (cell_of_row _ _ 0 _ _ _ HZ7.out).trans rfl, fun _ => q7⟩ (fun hC hS => ?_)
      rotate_left
      · intro W9 hSw; skip; go_simp; try (with_reducible rfl)
      try simp only [Act.put, List.setIfInBounds_toArray, List.set_cons_zero, List.set_cons_succ]
      refine wpAnyL_ready (rs := [14]) (by kernel_rfl) (by simp) hC ?_
      refine AllReadyL.cons (o := { dst := none, op := .store 40 (.tmp 16) (.tmp 13), type := _, pos := _, after := _, guard := none }) rfl (fun K9 hK => ?_) ?_
      · skip
        go_simp
        have HK := Lib.hid ((KK.refl [D] w7).set (b := D) (by simp) 1 (.slice A7 n7 c7))
        have HD8 := Lib.hid (show (w7.setCell ⟨D, 1, none⟩ (.slice A7 n7 c7)).heap[D]? = some (dkO sa sn sc A7 n7 c7 true dn ops fu) from heap_setCell_at (i := 1) (u := .slice A7 n7 c7) HD7.out)
        have hne : ∀ {b : Nat} {cs : Array Value} {T : TypeId}, w7.heap[b]? = some (.cells cs T (0, 0)) → T ≠ 44 → b ∉ [D] := fun hb hT e => by
          obtain rfl := (by simpa using e : _ = D)
          rw [HD7.out] at hb
          cases hb
          exact hT rfl
        have HX8 := Lib.hid (HK.out.blk HX7.out (hne HX7.out (by decide)))
        have HI8 := Lib.hid (HK.out.blk HI7.out (hne HI7.out (by decide)))
        have HZ8 := Lib.hid (HK.out.blk HZ7.out (hne HZ7.out (by decide)))
        have HS8 := Lib.hid (HS7.out.kkD HK.out HD7.out (by decide))
        have HC8 := Lib.hid (HO7.out.kkD HK.out HD7.out (by decide))
        refine hK _ _ ⟨(cell_of_row _ _ 0 _ _ _ HX8.out).trans rfl, (cell_of_row _ _ 0 _ _ _ HI8.out).trans rfl, (cell_of_row _ _ 0 _ _ _ HZ8.out).trans rfl, fun q => absurd q (by decide)⟩ (fun hC => ?_)
        clear hK K9
        try simp only [Act.put, List.setIfInBounds_toArray, List.set_cons_zero, List.set_cons_succ]
        refine wpAnyL_done (by kernel_rfl) ?_ _
        have HKd := Lib.hid (kd_app hDl H1.out HD8.out HBn.out HG7.out HK.out HOW.out HA7.out (HO7.out.sl0))
        refine bodyPost_end (results_none rfl _ _ _) rfl ?_
        exact ⟨rfl, ⟨⟨sa, sn, sc, A7, n7, c7, HD8.out, HS8.out, HC8.out⟩, fun x hx => by
          rcases List.mem_append.1 hx with hx | hx
          · exact H4.out x hx
          · obtain rfl : x = (i, s) := (by simpa using hx)
            exact HOK.out⟩, HKd.out⟩
      exact AllReadyL.nil
    exact AllReadyL.nil
  exact AllReadyL.nil
end Go.Proofs.YtagenkofoacajaaGreatDoor

namespace Go.Proofs.YtagenkofoacajaaGreatDoor
open Go.RowKit Vi

def wrtC (fu : Int) (CC : List Wr) (i : Int) (s : ByteArray) : List Wr := if fu = 1 then CC else CC ++ [(i, s)]
theorem dck_ok {n : Nat} {i : Int} {s : ByteArray} (h : dckE n i s = 0) : 0 ≤ i ∧ i < (n : Int) ∧ s.size = 128 := by
  unfold dckE at h
  split at h
  · next q =>
    split at h
    · next q2 => exact ⟨q.1, q.2, q2⟩
    · cases h
  · cases h
set_option maxRecDepth 100000 in
set_option maxHeartbeats 2000000 in
theorem dstep_write (X I Z D : Nat) (SS : List ByteArray) (CC : List Wr) (ops fu : Int) (i : Int) (s : ByteArray) (w : World) (h : DK D SS CC false ops fu w) (hx : w.heap[X]? = some (.cells #[.pointer (some ⟨D, 0, none⟩)] 31 (0, 0))) (hi : w.heap[I]? = some (.cells #[.int .i64 i] 3 (0, 0))) (hz : w.heap[Z]? = some (.cells #[.string s] 9 (0, 0))) (hok : 0 ≤ i ∧ i < (SS.length : Int) ∧ s.size = 128) (hl : CC.length + 1 ≤ 1000000) (ho : -1000000000 ≤ ops ∧ ops ≤ 1000000000) (hf : 0 ≤ fu ∧ fu ≤ 9223372036854775807) :
    Calls Tryz.prog 48 #[.pointer (some ⟨D, 0, none⟩), .func (.func 69) #[] #[.pointer (some ⟨X, 0, none⟩), .pointer (some ⟨I, 0, none⟩), .pointer (some ⟨Z, 0, none⟩)]] w fun e w' => e = .returned (.int .i64 (stpE fu)) ∧ DK D SS (wrtC fu CC i s) (stpD fu) (stpO ops fu) (stpF fu) w' ∧ Kd D w w' := by
  obtain ⟨⟨sa, sn, sc, ca, cn, cc, h1, h2, h3⟩, h4⟩ := h
  have hne : X ≠ D := fun e => by subst e; rw [h1] at hx; cases hx
  have hni : I ≠ D := fun e => by subst e; rw [h1] at hi; cases hi
  have hnz : Z ≠ D := fun e => by subst e; rw [h1] at hz; cases hz
  have HOK := Lib.hid hok
  have H1 := Lib.hid h1
  have H2 := Lib.hid h2
  have H3 := Lib.hid h3
  have H4 := Lib.hid h4
  obtain ⟨c0, c1, c2, c3, c4, c5⟩ := dk_cells h1
  by_cases hq : fu = 1
  · subst hq
    have HT := Lib.hid (dturn_any D sa sn sc ca cn cc true false ops 1 true w h1)
    clear h1 h2 h3 h4 hx hi hz hok
    go_enter Tryz.func48, Tryz.ntmps48
    go_wp2_with fail
    clear c0 c1 c2 c3 c4 c5
    refine HT.out.mono ?_
    rintro e w1 ⟨rfl, hb, hk⟩
    have HB := Lib.hid hb
    have HK := Lib.hid hk
    clear hb hk
    have HO2 := Lib.hid (H2.out.kkD HK.out H1.out (by decide))
    have HO3 := Lib.hid (H3.out.kkD HK.out H1.out (by decide))
    have HBl := Lib.hid (Kd.of_same HK.out H1.out HB.out)
    go_wp2_with fail
    go_ret
    exact ⟨rfl, ⟨⟨sa, sn, sc, ca, cn, cc, HB.out, HO2.out, HO3.out⟩, H4.out⟩, HBl.out⟩
  · have d1 : (fu == 1) = false := by rw [beq_eq_false_iff_ne]; exact hq
    have w1 : IntKind.i64.wrap (fu - 1) = fu - 1 := IntWalk.i64_in _ (by omega)
    have w2 : IntKind.i64.wrap (ops + 1) = ops + 1 := IntWalk.i64_in _ (by omega)
    have f4 : w.frozen? ⟨D, 4, none⟩ = false := frozen_of_row _ _ _ _ _ h1
    have f5 : w.frozen? ⟨D, 5, none⟩ = false := frozen_of_row _ _ _ _ _ h1
    have HQ := Lib.hid hq
    have HX := Lib.hid hx
    have HI := Lib.hid hi
    have HZ := Lib.hid hz
    clear h1 h2 h3 h4 hx hi hz hok hq
    go_enter Tryz.func48, Tryz.ntmps48
    go_wp2_with fail
    have HK := Lib.hid (((KK.refl [D] w).set (b := D) (by simp) 5 (.int .i64 (max (fu - 1) 0))).set (b := D) (by simp) 4 (.int .i64 (ops + 1)))
    have HB := Lib.hid (show ((w.setCell ⟨D, 5, none⟩ (.int .i64 (max (fu - 1) 0))).setCell ⟨D, 4, none⟩ (.int .i64 (ops + 1))).heap[D]? = some (dkO sa sn sc ca cn cc true false (ops + 1) (max (fu - 1) 0)) by have q := heap_setCell_at (i := 4) (u := .int .i64 (ops + 1)) (heap_setCell_at (i := 5) (u := .int .i64 (max (fu - 1) 0)) H1.out); exact q)
    have HX2 := Lib.hid (HK.out.blk HX.out (by simpa using hne))
    have HI2 := Lib.hid (HK.out.blk HI.out (by simpa using hni))
    have HZ2 := Lib.hid (HK.out.blk HZ.out (by simpa using hnz))
    have HO2 := Lib.hid (H2.out.kkD HK.out H1.out (by decide))
    have HO3 := Lib.hid (H3.out.kkD HK.out H1.out (by decide))
    have HBl := Lib.hid (Kd.of_same HK.out H1.out HB.out)
    clear c0 c1 c2 c3 c4 c5 f4 f5 w1 w2 d1
    generalize ((w.setCell ⟨D, 5, none⟩ (.int .i64 (max (fu - 1) 0))).setCell ⟨D, 4, none⟩ (.int .i64 (ops + 1))) = v at *
    have HF := Lib.hid (dwrite1 X I Z D SS CC false (ops + 1) (max (fu - 1) 0) i s v ⟨⟨sa, sn, sc, ca, cn, cc, HB.out, HO2.out, HO3.out⟩, H4.out⟩ HX2.out HI2.out HZ2.out HOK.out hl)
    refine HF.out.mono ?_
    rintro e w1 ⟨rfl, hd, hb⟩
    have HD := Lib.hid hd
    have HB2 := Lib.hid (HBl.out.trans hb)
    clear hd hb
    go_wp2_with fail
    go_ret
    exact ⟨dk_retI (by unfold stpE; rw [if_neg HQ.out]), by unfold wrtC stpD stpO stpF; rw [if_neg HQ.out, if_neg HQ.out, if_neg HQ.out, decide_eq_false HQ.out]; exact HD.out, HB2.out⟩
set_option maxRecDepth 100000 in
set_option maxHeartbeats 2000000 in
theorem dwrite_down (D : Nat) (SS : List ByteArray) (CC : List Wr) (ops fu : Int) (i : Int) (s : ByteArray) (w : World) (h : DK D SS CC true ops fu w) :
    Calls Tryz.prog 46 #[.pointer (some ⟨D, 0, none⟩), .int .i64 i, .string s] w fun e w' => e = .returned (.int .i64 7) ∧ DK D SS CC true ops fu w' ∧ Kd D w w' := by
  have HL := Lib.hid h.lt
  have HBn := Lib.hid ((((Below.refl w.heap.size w).alloc (Nat.le_refl _) (.cells #[.pointer (some ⟨D, 0, none⟩)] 31 (0, 0))).alloc (by simp) (.cells #[.int .i64 i] 3 (0, 0))).alloc (by simp; omega) (.cells #[.string s] 9 (0, 0)))
  have HD := Lib.hid (h.kept HBn.out)
  have HX := Lib.hid (blk_alloc (blk_alloc (blk_new w (.cells #[.pointer (some ⟨D, 0, none⟩)] 31 (0, 0))) (.cells #[.int .i64 i] 3 (0, 0))) (.cells #[.string s] 9 (0, 0)))
  have HI : Hid ((((w.alloc (.cells #[.pointer (some ⟨D, 0, none⟩)] 31 (0, 0))).alloc (.cells #[.int .i64 i] 3 (0, 0))).alloc (.cells #[.string s] 9 (0, 0))).heap[w.heap.size + 1]? = some (.cells #[.int .i64 i] 3 (0, 0))) := Lib.hid (blk_alloc (two_blk w (.cells #[.pointer (some ⟨D, 0, none⟩)] 31 (0, 0)) (.cells #[.int .i64 i] 3 (0, 0))) (.cells #[.string s] 9 (0, 0)))
  have HZ : Hid ((((w.alloc (.cells #[.pointer (some ⟨D, 0, none⟩)] 31 (0, 0))).alloc (.cells #[.int .i64 i] 3 (0, 0))).alloc (.cells #[.string s] 9 (0, 0))).heap[w.heap.size + 2]? = some (.cells #[.string s] 9 (0, 0))) := Lib.hid (three_blk w (.cells #[.pointer (some ⟨D, 0, none⟩)] 31 (0, 0)) (.cells #[.int .i64 i] 3 (0, 0)) (.cells #[.string s] 9 (0, 0)))
  obtain ⟨v, hv⟩ : ∃ v, v = (((w.alloc (.cells #[.pointer (some ⟨D, 0, none⟩)] 31 (0, 0))).alloc (.cells #[.int .i64 i] 3 (0, 0))).alloc (.cells #[.string s] 9 (0, 0))) := ⟨_, rfl⟩
  have HV := Lib.hid hv
  rw [← hv] at HBn HD HX HI HZ
  have HR := Lib.hid HD.out.readyIs
  clear h hv
  go_enter Tryz.func46, Tryz.ntmps46
  go_upto_region 1 with (fail)
  rw [← HV.out]
  have x0 : v.cell? ⟨w.heap.size, 0, none⟩ = some (.pointer (some ⟨D, 0, none⟩)) := (cell_of_row _ _ 0 _ _ _ HX.out).trans rfl
  go_wp2_with fail
  refine HR.out.mono ?_
  rintro e w' ⟨rfl, rfl⟩
  clear x0
  go_wp2_with fail
  go_ret
  exact ⟨rfl, HD.out, Kd.of_below HBn.out HL.out⟩
set_option maxRecDepth 100000 in
set_option maxHeartbeats 2000000 in
theorem dwrite_no (D : Nat) (SS : List ByteArray) (CC : List Wr) (ops fu : Int) (i : Int) (s : ByteArray) (w : World) (h : DK D SS CC false ops fu w) (hne : dckE SS.length i s ≠ 0) :
    Calls Tryz.prog 46 #[.pointer (some ⟨D, 0, none⟩), .int .i64 i, .string s] w fun e w' => e = .returned (.int .i64 (dckE SS.length i s)) ∧ DK D SS CC false ops fu w' ∧ Kd D w w' := by
  have HL := Lib.hid h.lt
  have HBn := Lib.hid ((((Below.refl w.heap.size w).alloc (Nat.le_refl _) (.cells #[.pointer (some ⟨D, 0, none⟩)] 31 (0, 0))).alloc (by simp) (.cells #[.int .i64 i] 3 (0, 0))).alloc (by simp; omega) (.cells #[.string s] 9 (0, 0)))
  have HD := Lib.hid (h.kept HBn.out)
  have HX := Lib.hid (blk_alloc (blk_alloc (blk_new w (.cells #[.pointer (some ⟨D, 0, none⟩)] 31 (0, 0))) (.cells #[.int .i64 i] 3 (0, 0))) (.cells #[.string s] 9 (0, 0)))
  have HI : Hid ((((w.alloc (.cells #[.pointer (some ⟨D, 0, none⟩)] 31 (0, 0))).alloc (.cells #[.int .i64 i] 3 (0, 0))).alloc (.cells #[.string s] 9 (0, 0))).heap[w.heap.size + 1]? = some (.cells #[.int .i64 i] 3 (0, 0))) := Lib.hid (blk_alloc (two_blk w (.cells #[.pointer (some ⟨D, 0, none⟩)] 31 (0, 0)) (.cells #[.int .i64 i] 3 (0, 0))) (.cells #[.string s] 9 (0, 0)))
  have HZ : Hid ((((w.alloc (.cells #[.pointer (some ⟨D, 0, none⟩)] 31 (0, 0))).alloc (.cells #[.int .i64 i] 3 (0, 0))).alloc (.cells #[.string s] 9 (0, 0))).heap[w.heap.size + 2]? = some (.cells #[.string s] 9 (0, 0))) := Lib.hid (three_blk w (.cells #[.pointer (some ⟨D, 0, none⟩)] 31 (0, 0)) (.cells #[.int .i64 i] 3 (0, 0)) (.cells #[.string s] 9 (0, 0)))
  obtain ⟨v, hv⟩ : ∃ v, v = (((w.alloc (.cells #[.pointer (some ⟨D, 0, none⟩)] 31 (0, 0))).alloc (.cells #[.int .i64 i] 3 (0, 0))).alloc (.cells #[.string s] 9 (0, 0))) := ⟨_, rfl⟩
  have HV := Lib.hid hv
  rw [← hv] at HBn HD HX HI HZ
  have HR := Lib.hid HD.out.readyIs
  obtain ⟨z, hz⟩ : ∃ z, z = dckE SS.length i s := ⟨_, rfl⟩
  rw [← hz] at hne
  have hzn : (z != 0) = true := by simpa using hne
  have HE := Lib.hid hz
  clear hne hz
  have HC := Lib.hid (fun (W : World) (q : DK D SS CC false ops fu W) => (by rw [HE.out]; exact q.checkIs i s : Calls Tryz.prog 68 #[.pointer (some ⟨D, 0, none⟩), .int .i64 i, .string s] W fun e w' => e = .returned (.int .i64 z) ∧ W = w'))
  clear h hv
  go_enter Tryz.func46, Tryz.ntmps46
  go_upto_region 1 with (fail)
  rw [← HV.out]
  have x0 : v.cell? ⟨w.heap.size, 0, none⟩ = some (.pointer (some ⟨D, 0, none⟩)) := (cell_of_row _ _ 0 _ _ _ HX.out).trans rfl
  go_wp2_with fail
  refine HR.out.mono ?_
  rintro e w' ⟨rfl, rfl⟩
  go_upto_region 4 with (fail)
  clear x0
  have HDI := Lib.hid (show DK D SS CC false ops fu v from HD.out)
  have y0 : v.cell? ⟨w.heap.size, 0, none⟩ = some (.pointer (some ⟨D, 0, none⟩)) := (cell_of_row _ _ 0 _ _ _ HX.out).trans rfl
  have y1 : v.cell? ⟨w.heap.size + 1, 0, none⟩ = some (.int .i64 i) := (cell_of_row _ _ 0 _ _ _ HI.out).trans rfl
  have y2 : v.cell? ⟨w.heap.size + 2, 0, none⟩ = some (.string s) := (cell_of_row _ _ 0 _ _ _ HZ.out).trans rfl
  have r0 := fun d os => cell_regrown y0 d os
  have r1 := fun d os => cell_regrown y1 d os
  have r2 := fun d os => cell_regrown y2 d os
  clear y0 y1 y2
  refine wp_region_quiet_below (by kernel_rfl) (by kernel_rfl) ?_
  repeat (any_goals (first | go_big_quiet_step (((go_at_call 68; with_reducible exact Calls.regrown_of (of_same (HC.out _ (HDI.out.kept (below_regrown _ _ _))))))) | quiet_step (((go_at_call 68; with_reducible exact Calls.regrown_of (of_same (HC.out _ (HDI.out.kept (below_regrown _ _ _)))))))))
  refine wpQuiet_nil ?_
  intro v1 hv1
  have hb1 := below_anyY hv1
  clear hv1 r0 r1 r2
  have HB1 := Lib.hid (HBn.out.trans (hb1.mono HBn.out.size))
  have HD1 := Lib.hid (HD.out.kept hb1)
  have HX1 := Lib.hid (blk_below HX.out hb1)
  have HI1 := Lib.hid (blk_below HI.out hb1)
  have HZ1 := Lib.hid (blk_below HZ.out hb1)
  clear hb1
  go_wp2_with fail
  go_ret
  exact ⟨dk_retI HE.out, HD1.out, Kd.of_below HB1.out HL.out⟩
set_option maxRecDepth 100000 in
set_option maxHeartbeats 2000000 in
theorem dwrite_up (D : Nat) (SS : List ByteArray) (CC : List Wr) (ops fu : Int) (i : Int) (s : ByteArray) (w : World) (h : DK D SS CC false ops fu w) (hz0 : dckE SS.length i s = 0) (ho : -1000000000 ≤ ops ∧ ops ≤ 1000000000) (hf : 0 ≤ fu ∧ fu ≤ 9223372036854775807) (hl : CC.length + 1 ≤ 1000000) :
    Calls Tryz.prog 46 #[.pointer (some ⟨D, 0, none⟩), .int .i64 i, .string s] w fun e w' => e = .returned (.int .i64 (stpE fu)) ∧ DK D SS (wrtC fu CC i s) (stpD fu) (stpO ops fu) (stpF fu) w' ∧ Kd D w w' := by
  have HL := Lib.hid h.lt
  have HBn := Lib.hid ((((Below.refl w.heap.size w).alloc (Nat.le_refl _) (.cells #[.pointer (some ⟨D, 0, none⟩)] 31 (0, 0))).alloc (by simp) (.cells #[.int .i64 i] 3 (0, 0))).alloc (by simp; omega) (.cells #[.string s] 9 (0, 0)))
  have HD := Lib.hid (h.kept HBn.out)
  have HX := Lib.hid (blk_alloc (blk_alloc (blk_new w (.cells #[.pointer (some ⟨D, 0, none⟩)] 31 (0, 0))) (.cells #[.int .i64 i] 3 (0, 0))) (.cells #[.string s] 9 (0, 0)))
  have HI : Hid ((((w.alloc (.cells #[.pointer (some ⟨D, 0, none⟩)] 31 (0, 0))).alloc (.cells #[.int .i64 i] 3 (0, 0))).alloc (.cells #[.string s] 9 (0, 0))).heap[w.heap.size + 1]? = some (.cells #[.int .i64 i] 3 (0, 0))) := Lib.hid (blk_alloc (two_blk w (.cells #[.pointer (some ⟨D, 0, none⟩)] 31 (0, 0)) (.cells #[.int .i64 i] 3 (0, 0))) (.cells #[.string s] 9 (0, 0)))
  have HZ : Hid ((((w.alloc (.cells #[.pointer (some ⟨D, 0, none⟩)] 31 (0, 0))).alloc (.cells #[.int .i64 i] 3 (0, 0))).alloc (.cells #[.string s] 9 (0, 0))).heap[w.heap.size + 2]? = some (.cells #[.string s] 9 (0, 0))) := Lib.hid (three_blk w (.cells #[.pointer (some ⟨D, 0, none⟩)] 31 (0, 0)) (.cells #[.int .i64 i] 3 (0, 0)) (.cells #[.string s] 9 (0, 0)))
  obtain ⟨v, hv⟩ : ∃ v, v = (((w.alloc (.cells #[.pointer (some ⟨D, 0, none⟩)] 31 (0, 0))).alloc (.cells #[.int .i64 i] 3 (0, 0))).alloc (.cells #[.string s] 9 (0, 0))) := ⟨_, rfl⟩
  have HV := Lib.hid hv
  rw [← hv] at HBn HD HX HI HZ
  have HR := Lib.hid HD.out.readyIs
  have HE := Lib.hid hz0
  clear hz0
  have HC := Lib.hid (fun (W : World) (q : DK D SS CC false ops fu W) => (by have t := q.checkIs i s; rw [HE.out] at t; exact t : Calls Tryz.prog 68 #[.pointer (some ⟨D, 0, none⟩), .int .i64 i, .string s] W fun e w' => e = .returned (.int .i64 0) ∧ W = w'))
  clear h hv
  go_enter Tryz.func46, Tryz.ntmps46
  go_upto_region 1 with (fail)
  rw [← HV.out]
  have x0 : v.cell? ⟨w.heap.size, 0, none⟩ = some (.pointer (some ⟨D, 0, none⟩)) := (cell_of_row _ _ 0 _ _ _ HX.out).trans rfl
  go_wp2_with fail
  refine HR.out.mono ?_
  rintro e w' ⟨rfl, rfl⟩
  go_upto_region 4 with (fail)
  clear x0
  have HDI := Lib.hid (show DK D SS CC false ops fu v from HD.out)
  have y0 : v.cell? ⟨w.heap.size, 0, none⟩ = some (.pointer (some ⟨D, 0, none⟩)) := (cell_of_row _ _ 0 _ _ _ HX.out).trans rfl
  have y1 : v.cell? ⟨w.heap.size + 1, 0, none⟩ = some (.int .i64 i) := (cell_of_row _ _ 0 _ _ _ HI.out).trans rfl
  have y2 : v.cell? ⟨w.heap.size + 2, 0, none⟩ = some (.string s) := (cell_of_row _ _ 0 _ _ _ HZ.out).trans rfl
  have r0 := fun d os => cell_regrown y0 d os
  have r1 := fun d os => cell_regrown y1 d os
  have r2 := fun d os => cell_regrown y2 d os
  clear y0 y1 y2
  refine wp_region_quiet_below (by kernel_rfl) (by kernel_rfl) ?_
  repeat (any_goals (first | go_big_quiet_step (((go_at_call 68; with_reducible exact Calls.regrown_of (of_same (HC.out _ (HDI.out.kept (below_regrown _ _ _))))))) | quiet_step (((go_at_call 68; with_reducible exact Calls.regrown_of (of_same (HC.out _ (HDI.out.kept (below_regrown _ _ _)))))))))
  refine wpQuiet_nil ?_
  intro v1 hv1
  have hb1 := below_anyY hv1
  clear hv1 r0 r1 r2
  have HB1 := Lib.hid (HBn.out.trans (hb1.mono HBn.out.size))
  have HD1 := Lib.hid (HD.out.kept hb1)
  have HX1 := Lib.hid (blk_below HX.out hb1)
  have HI1 := Lib.hid (blk_below HI.out hb1)
  have HZ1 := Lib.hid (blk_below HZ.out hb1)
  clear hb1
  have HOK : Hid (0 ≤ i ∧ i < (SS.length : Int) ∧ s.size = 128) := Lib.hid (dck_ok HE.out)
  have HS := Lib.hid (dstep_write w.heap.size (w.heap.size + 1) (w.heap.size + 2) D SS CC ops fu i s v1 HD1.out HX1.out HI1.out HZ1.out HOK.out hl ho hf)
  have x0 : v1.cell? ⟨w.heap.size, 0, none⟩ = some (.pointer (some ⟨D, 0, none⟩)) := (cell_of_row _ _ 0 _ _ _ HX1.out).trans rfl
  go_wp2_with fail
  clear x0
  refine HS.out.mono ?_
  rintro e w1 ⟨rfl, hd, hb⟩
  have HD2 := Lib.hid hd
  have HB2 := Lib.hid ((Kd.of_below HB1.out HL.out).trans hb)
  clear hd hb
  go_wp2_with fail
  go_ret
  exact ⟨rfl, HD2.out, HB2.out⟩
end Go.Proofs.YtagenkofoacajaaGreatDoor

namespace Go.Proofs.YtagenkofoacajaaGreatDoor
open Go.RowKit Go.Shelf Vi
attribute [local go_sem] Oper.semAt_some

/-- what has come when k rounds are over -/
def bwU (CC : List Wr) (k : Nat) : List (Int × Wr) := (List.range k).map fun j => (((CC.length - 1 - j : Nat) : Int), (CC[CC.length - 1 - j]?).getD (0, ⟨#[]⟩))
theorem bwU_succ (CC : List Wr) (k : Nat) : bwU CC (k + 1) = bwU CC k ++ [(((CC.length - 1 - k : Nat) : Int), (CC[CC.length - 1 - k]?).getD (0, ⟨#[]⟩))] := by simp [bwU, List.range_succ]
theorem bwU_len (CC : List Wr) (k : Nat) : (bwU CC k).length = k := by simp [bwU]
theorem bwU_pre (CC : List Wr) {k n : Nat} (h : k ≤ n) : bwU CC k <+: bwU CC n := by
  have e : List.range k = (List.range n).take k := by
    rw [List.take_range, Nat.min_eq_left h]
  have q : List.range k <+: List.range n := by rw [e]; exact List.take_prefix _ _
  exact q.map _
abbrev bwE (x : Int × Wr) : Array Value := #[.int .i64 x.1, .agg #[.int .i64 x.2.1, .string x.2.2]]
set_option maxRecDepth 100000 in
set_option maxHeartbeats 2000000 in
theorem back1_in (F : Fence) (n : Nat) (hg : F.fn 95) (hro : F.round = none) (hn : 1 ≤ n) (l Bs n₀ : Nat) (A : Option Addr) (cap : Nat) (CC : List Wr) (hl : CC.length ≤ 1000000) (J Jx : List (Int × Wr) → World → Prop)
    (hY : ∀ pre x W, J pre W → pre.length < CC.length → YieldAt F (n - 1) Tryz.prog l (bwE x) W fun e W' =>
      (e = .returned (.bool true) ∧ J (pre ++ [x]) W' ∧ Below n₀ W W') ∨ (e = .returned (.bool false) ∧ Jx (pre ++ [x]) W'))
    (W : World) (hBs : W.cell? ⟨Bs, 0, none⟩ = some (.slice A CC.length cap)) (hBl : Bs < n₀) (hr : RdX wrC 2 W A CC.length CC) (hA : ∀ b o, A = some ⟨b, o, none⟩ → b < n₀) (h0 : J [] W) :
    CallsIn F n Tryz.prog 95 #[.func (.yield l) #[] #[], .pointer (some ⟨Bs, 0, none⟩)] W fun e W' => (∃ v, e = .returned v) ∧
      ((∃ ys, ys = bwU CC CC.length ∧ J ys W') ∨ (∃ pre, pre <+: bwU CC CC.length ∧ Jx pre W')) := by
  have HR := Lib.hid hr
  have HA := Lib.hid hA
  have HBS := Lib.hid hBs
  clear hr hA
  refine callsIn_of_wp Tryz.func95 rfl hg ?_ hro
  simp only [Tryz.ntmps95, List.size_toArray, List.length_cons, List.length_nil, Nat.reduceAdd, Nat.reduceSub, Array.replicate_succ, Array.replicate_zero, List.push_toArray, List.append_toArray, List.nil_append, List.cons_append]
  gi_wp2
  clear hBs
  gi_loopw [3] (fun i wr => ∃ m : Nat, m ≤ CC.length ∧ i = .int .i64 ((m : Int) - 1) ∧ J (bwU CC (CC.length - m)) wr ∧ Below n₀ W wr) (fun i _ => (intOf i + 1).toNat)
  case atStart => exact ⟨CC.length, Nat.le_refl _, rfl, by rw [Nat.sub_self]; exact h0, Below.refl _ _⟩
  case round =>
    obtain ⟨m, hm, rfl, hJs, hnx⟩ := hrel
    have HNX := Lib.hid hnx
    clear hnx
    cases m with
    | zero =>
      have HJ := Lib.hid (show J (bwU CC CC.length) wr by simpa using hJs)
      clear hJs
      gi_wp2
      go_end0
      exact ⟨⟨_, rfl⟩, .inl ⟨_, rfl, HJ.out⟩⟩
    | succ p =>
      have e : (((p + 1 : Nat) : Int) - 1) = (p : Int) := by omega
      rw [e]
      clear e
      have hp0 : (0 : Int) ≤ (p : Int) := by omega
      have hlt : p < CC.length := by omega
      obtain ⟨b, off, _, hAe, _, _⟩ := HR.out.at hlt
      obtain ⟨x, hx⟩ : ∃ x, CC[p]? = some x := ⟨_, List.getElem?_eq_getElem hlt⟩
      obtain rfl := hAe
      have hbl : b < n₀ := HA.out b off rfl
      have HJ := Lib.hid hJs
      have HS : Hid (bwU CC (CC.length - p) = bwU CC (CC.length - (p + 1)) ++ [((p : Int), x)]) := Lib.hid (by
        have e1 : CC.length - p = CC.length - (p + 1) + 1 := by omega
        have e2 : CC.length - 1 - (CC.length - (p + 1)) = p := by omega
        rw [e1, bwU_succ, e2, hx]; rfl)
      obtain ⟨at0, s⟩ := x
      have c0 : wr.cell? ⟨b, off + p * 2, none⟩ = some (.int .i64 at0) := by
        have q := HR.out.cellAt hx hlt 0 _ rfl
        rw [HNX.out.cell (p := ⟨b, off + p * 2, none⟩) hbl]; exact q
      have c1 : wr.cell? ⟨b, off + p * 2 + 1, none⟩ = some (.string s) := by
        have q := HR.out.cellAt hx hlt 1 _ rfl
        rw [HNX.out.cell (p := ⟨b, off + p * 2 + 1, none⟩) hbl]; exact q
      have cs : wr.cell? ⟨Bs, 0, none⟩ = some (.slice (some ⟨b, off, none⟩) CC.length cap) := by rw [HNX.out.cell (p := ⟨Bs, 0, none⟩) hBl]; exact HBS.out
      obtain ⟨fn, tmps, assign, body, hy, hR⟩ := hY _ ((p : Int), (at0, s)) wr hJs (by rw [bwU_len]; omega)
      dsimp only [bwE] at hy
      have hpl : (p : Int) < (CC.length : Int) := by omega
      clear hx hJs
      gi_wp2
      refine hR.mono ?_
      rintro e W3 (⟨rfl, hJ3, hk3⟩ | ⟨rfl, hJx3⟩)
      · have HJ3 := Lib.hid hJ3
        have HK3 := Lib.hid (HNX.out.trans hk3)
        clear hJ3 hk3
        gi_wp2
        go_roundw
        case rel => exact ⟨p, by omega, rfl, by rw [HS.out]; exact HJ3.out, HK3.out⟩
        case measure => simp [intOf] <;> omega
      · have HJ3 := Lib.hid hJx3
        clear hJx3
        gi_wp2
        refine bodyPost_ret (results_none rfl _ _ _) rfl ?_
        exact ⟨⟨_, rfl⟩, .inr ⟨_, by rw [← HS.out]; exact bwU_pre CC (by omega), HJ3.out⟩⟩
set_option maxHeartbeats 1000000 in
theorem back_in (F : Fence) (n : Nat) (hg : F.fn 78) (hro : F.round = none) (a : Option Addr) (len cap : Nat) (w : World) :
    CallsIn F n Tryz.prog 78 #[.slice a len cap] w fun e w' => e = .returned (.func (.func 95) #[] #[.pointer (some ⟨w.heap.size, 0, none⟩)]) ∧ w' = w.alloc (.cells #[.slice a len cap] 40) := by
  refine callsIn_of_wp Tryz.func78 rfl hg ?_ hro
  simp only [Tryz.ntmps78, List.size_toArray, List.length_cons, List.length_nil, Nat.reduceAdd, Nat.reduceSub, Array.replicate_succ, Array.replicate_zero, List.push_toArray, List.append_toArray, List.nil_append, List.cons_append]
  gi_wp2
  go_ret
  exact ⟨rfl, rfl⟩
theorem back_stops (F : Fence) (n : Nat) (hg : F.fn 95) (hro : F.round = none) (hn : 1 ≤ n) (Bs : Nat) (A : Option Addr) (cap : Nat) (CC : List Wr) (hl : CC.length ≤ 1000000) (w : World) (hBs : Bs < w.heap.size)
    (hc : w.cell? ⟨Bs, 0, none⟩ = some (.slice A CC.length cap)) (hr : RdX wrC 2 w A CC.length CC) (hA : ∀ b o, A = some ⟨b, o, none⟩ → b < w.heap.size) :
    SeqStopsK F n Tryz.prog 95 #[.pointer (some ⟨Bs, 0, none⟩)] bwE (Below w.heap.size) (fun ys => ys = bwU CC CC.length) (fun pre => pre <+: bwU CC CC.length) CC.length w := fun l J Jx W hW _ _ hY h0 =>
  back1_in F n hg hro hn l Bs w.heap.size A cap CC hl J Jx hY W ((hW.cell (p := ⟨Bs, 0, none⟩) hBs).trans hc) hBs (hr.below hW) hA h0
end Go.Proofs.YtagenkofoacajaaGreatDoor

namespace Go.Proofs.YtagenkofoacajaaGreatDoor
open Go.RowKit Go.Shelf Vi
attribute [local go_sem] Oper.semAt_some

/-- what a sector shows -/
def shwL (i : Int) : List Wr → ByteArray → ByteArray
  | [], s => s
  | x :: r, s => shwL i r (if x.1 = i then x.2 else s)
def shw (SS : List ByteArray) (CC : List Wr) (i : Int) : ByteArray := shwL i CC ((SS[i.toNat]?).getD ⟨#[]⟩)
theorem shwL_snoc (i : Int) : ∀ (l : List Wr) (x : Wr) (s : ByteArray), shwL i (l ++ [x]) s = if x.1 = i then x.2 else shwL i l s
  | [], _, _ => rfl
  | _ :: r, x, _ => shwL_snoc i r x _
theorem shwL_none (i : Int) : ∀ (l : List Wr) (s : ByteArray), (∀ x ∈ l, x.1 ≠ i) → shwL i l s = s
  | [], _, _ => rfl
  | y :: r, s, h => by
    show shwL i r _ = s
    rw [if_neg (h y (by simp))]
    exact shwL_none i r s (fun x hx => h x (List.mem_cons_of_mem _ hx))
theorem bwU_get (CC : List Wr) (k : Nat) (h : k < CC.length) : (bwU CC CC.length)[k]? = some (((CC.length - 1 - k : Nat) : Int), CC[CC.length - 1 - k]'(by omega)) := by
  unfold bwU
  rw [List.getElem?_map, List.getElem?_range h]
  simp
  rw [List.getElem?_eq_getElem (by omega)]
  rfl
/-- the first that is met, from behind, is what is shown -/
theorem shw_hit {SS : List ByteArray} {CC : List Wr} {i : Int} {q : List (Int × Wr)} {x : Int × Wr} (hp : q ++ [x] <+: bwU CC CC.length) (hq : ∀ y ∈ q, y.2.1 ≠ i) (hx : x.2.1 = i) : shw SS CC i = x.2.2 := by
  have hl := hp.length_le
  rw [bwU_len, List.length_append] at hl
  simp at hl
  have hk : q.length < CC.length := by omega
  have hat : ∀ j, j < q.length + 1 → (q ++ [x])[j]? = (bwU CC CC.length)[j]? := fun j hj => by
    obtain ⟨t, ht⟩ := hp
    rw [← ht, List.getElem?_append_left (l₁ := q ++ [x]) (by rw [List.length_append]; exact hj)]
  have hxe : x.2 = CC[CC.length - 1 - q.length]'(by omega) := by
    have e := hat q.length (by omega)
    rw [bwU_get CC _ hk] at e
    have e2 : (q ++ [x])[q.length]? = some x := by rw [List.getElem?_append_right (Nat.le_refl _), Nat.sub_self]; rfl
    rw [e2] at e
    injection e with e
    rw [e]
  have hne : ∀ j (_ : CC.length - 1 - q.length < j) (hj : j < CC.length), CC[j].1 ≠ i := fun j h1 hj => by
    have e := hat (CC.length - 1 - j) (by omega)
    rw [bwU_get CC _ (by omega), List.getElem?_append_left (by omega), List.getElem?_eq_getElem (by omega)] at e
    have h2 := hq _ (List.getElem_mem (l := q) (n := CC.length - 1 - j) (by omega))
    injection e with e
    rw [e] at h2
    have e2 : CC.length - 1 - (CC.length - 1 - j) = j := by omega
    simpa [e2] using h2
  have hs : CC = CC.take (CC.length - 1 - q.length) ++ [x.2] ++ CC.drop (CC.length - q.length) := by
    have e1 : CC.length - q.length = CC.length - 1 - q.length + 1 := by omega
    rw [hxe, List.append_assoc, List.singleton_append, e1, ← List.drop_eq_getElem_cons (by omega), List.take_append_drop]
  have app : ∀ (l m : List Wr) (s : ByteArray), shwL i (l ++ m) s = shwL i m (shwL i l s) := fun l => by
    induction l with
    | nil => intro m s; rfl
    | cons y r ih => intro m s; exact ih m _
  unfold shw
  rw [hs, app, shwL_snoc, if_pos hx]
  refine shwL_none i _ _ (fun y hy => ?_)
  obtain ⟨j, hj, e⟩ := List.getElem_of_mem hy
  rw [← e, List.getElem_drop]
  rw [List.length_drop] at hj
  exact hne _ (by omega) (by omega)
theorem shw_miss {SS : List ByteArray} {CC : List Wr} {i : Int} (hq : ∀ y ∈ bwU CC CC.length, y.2.1 ≠ i) : shw SS CC i = (SS[i.toNat]?).getD ⟨#[]⟩ := by
  refine shwL_none i CC _ (fun x hx => ?_)
  obtain ⟨j, hj, e⟩ := List.getElem_of_mem hx
  have h := bwU_get CC (CC.length - 1 - j) (by omega)
  have h2 := hq _ (List.mem_of_getElem? h)
  have e2 : CC.length - 1 - (CC.length - 1 - j) = j := by omega
  rw [← e]
  simpa [e2] using h2
theorem row_own {β : Type} (B : Nat) (o : Obj) (hc : o.isCells = true) : Own (fun (_ : β) (W : World) => W.heap[B]? = some o) := fun _ X Y row hs hg hrow => by
  have hs : X.heap[B]? = some o := hs
  show Y.heap[B]? = some o
  rw [hg.block B (lt_of_block hs) (fun e => by
    obtain ⟨o', ho, hc'⟩ := hrow B (by first | exact e | exact e.symm)
    rw [hs] at ho
    cases ho
    rw [hc] at hc'
    cases hc')]
  exact hs
set_option maxRecDepth 100000 in
set_option maxHeartbeats 4000000 in
theorem dshow_in (F : Fence) (n : Nat) (h3 : F.fn 55) (h4 : F.fn 78) (h5 : F.fn 95) (hro : F.round = none) (hn : 6 ≤ n)
    (D : Nat) (SS : List ByteArray) (CC : List Wr) (dn : Bool) (ops fu : Int) (i : Int) (w : World) (h : DK D SS CC dn ops fu w) (hi : 0 ≤ i ∧ i < (SS.length : Int)) (hl : CC.length ≤ 1000000) :
    CallsIn F n Tryz.prog 55 #[.pointer (some ⟨D, 0, none⟩), .int .i64 i] w fun e W' => e = .returned (.string (shw SS CC i)) ∧ Below w.heap.size w W' := by
  have h1 : 1 ≤ n := by omega
  obtain ⟨⟨sa, sn, sc, ca, cn, cc, g1, g2, g3⟩, _⟩ := h
  have HD := Lib.hid g1
  have H2 := Lib.hid g2
  obtain ⟨A, c, e, hr, _, _⟩ := g3.rd wrC_len
  injection e with e1 e2 e3
  subst e1 e2 e3
  have HR := Lib.hid hr
  have HOA := Lib.hid (fun b o (e : ca = some ⟨b, o, none⟩) => show b < w.heap.size from by subst e; exact own_lt g3)
  obtain ⟨c0, c1, c2, c3, c4, c5⟩ := dk_cells g1
  have HI := Lib.hid hi
  have c1b : ((w.alloc (.cells #[.int .i64 i] 3)).alloc (.cells #[.string ⟨#[]⟩] 9)).cell? ⟨D, 1, none⟩ = some (.slice ca CC.length cc) := (dk_cells (blk_alloc (blk_alloc g1 _) _)).2.1
  clear g1 g2 g3 hr hi
  refine callsIn_of_wp_marks Tryz.func55 rfl h3 ?_ hro
  simp only [Tryz.ntmps55, List.size_toArray, List.length_cons, List.length_nil, Nat.reduceAdd, Nat.reduceSub, Array.replicate_succ, Array.replicate_zero, List.push_toArray, List.append_toArray, List.nil_append, List.cons_append]
  gi_wp2_with (gi_at_call 78; refine (back_in F (n - 1) h4 hro _ _ _ _).mono ?_; rintro e w' ⟨rfl, rfl⟩)
  have bI := ((Boxed.new w 3 (.int .i64 i)).alloc (.cells #[.string ⟨#[]⟩] 9)).alloc (.cells #[.slice ca CC.length cc] 40)
  have bR := (Boxed.new (w.alloc (.cells #[.int .i64 i] 3)) 9 (.string ⟨#[]⟩)).alloc (.cells #[.slice ca CC.length cc] 40)
  have bS := Boxed.new ((w.alloc (.cells #[.int .i64 i] 3)).alloc (.cells #[.string ⟨#[]⟩] 9)) 40 (.slice ca CC.length cc)
  simp only [World.size_alloc] at bR bS
  have hB0 : Below w.heap.size w (((w.alloc (.cells #[.int .i64 i] 3)).alloc (.cells #[.string ⟨#[]⟩] 9)).alloc (.cells #[.slice ca CC.length cc] 40)) := (((Below.refl _ w).alloc (Nat.le_refl _) _).alloc (by simp) _).alloc (by simp; omega) _
  have hsz : (((w.alloc (.cells #[.int .i64 i] 3)).alloc (.cells #[.string ⟨#[]⟩] 9)).alloc (.cells #[.slice ca CC.length cc] 40)).heap.size = w.heap.size + 3 := by simp
  clear c0 c1 c2 c3 c4 c5 c1b
  obtain ⟨W0, hW0⟩ : ∃ W0, ((w.alloc (.cells #[.int .i64 i] 3)).alloc (.cells #[.string ⟨#[]⟩] 9)).alloc (.cells #[.slice ca CC.length cc] 40) = W0 := ⟨_, rfl⟩
  rw [hW0] at bI bR bS hB0 hsz ⊢
  clear hW0
  have HB0 := Lib.hid hB0
  refine wpIn_rangeFunc_ownH hro h1 (gf := 95) (lb := #[.pointer (some ⟨w.heap.size + 1 + 1, 0, none⟩)]) rfl h5 (enters_of Tryz.func95 (by kernel_rfl) rfl)
    (back_stops F (n - 1) h5 hro (by omega) (w.heap.size + 1 + 1) ca cc CC hl W0 (by omega) bS.cell (HR.out.below hB0) (fun b o e => by have := HOA.out b o e; omega)) belowK_t (belowK_b (by omega)) (Below.refl _ _) (fun _ => rfl)
    (fun pre W => (Boxed W w.heap.size 3 (.int .i64 i) ∧ Boxed W (w.heap.size + 1) 9 (.string ⟨#[]⟩)) ∧ Hid (∀ y ∈ pre, y.2.1 ≠ i) ∧ Below W0.heap.size W0 W)
    (fun c pre W => (Boxed W (w.heap.size + 1) 9 (.string (((pre.getLast?).map (·.2.2)).getD ⟨#[]⟩))) ∧ Hid (c = .ret ∧ ∃ q x, pre = q ++ [x] ∧ (∀ y ∈ q, y.2.1 ≠ i) ∧ x.2.1 = i) ∧ Below w.heap.size w W)
    (OwnFrom.and (OwnFrom.and (Own.from (boxed_own _ _ _) _) (Own.from (boxed_own _ _ _) _)) (OwnFrom.and (ownFrom_pure _ _) (ownFrom_below (Nat.le_refl _) (by omega))))
    (fun c => OwnFrom.and (Own.from (boxed_own _ _ _) _) (OwnFrom.and (ownFrom_pure _ _) (ownFrom_below (Nat.le_refl _) (by omega))))
    ⟨⟨bI, bR⟩, Lib.hid (by simp), Below.refl _ _⟩
    (fun x a' W => ∃ Bx, w.heap.size + 1 < Bx ∧ W.heap[Bx]? = some (.cells #[.int .i64 x.2.1, .string x.2.2] 111 (0, 0)) ∧ a' = { tmps := #[.pointer (some ⟨D, 0, none⟩), .int .i64 i, undef, .pointer (some ⟨w.heap.size, 0, none⟩), .pointer (some ⟨w.heap.size + 1, 0, none⟩), undef, .pointer (some ⟨Bx, 0, none⟩), .pointer (some ⟨D, 0, none⟩), .pointer (some ⟨D, 0, none⟩), .pointer (some ⟨D, 1, none⟩), .slice ca CC.length cc, .func (.func 95) #[] #[.pointer (some ⟨w.heap.size + 1 + 1, 0, none⟩)], .int .i64 x.1, .agg #[.int .i64 x.2.1, .string x.2.2], undef, undef, undef, undef, undef, undef, undef, undef, undef, undef, undef, undef, undef], defers := [] })
    (fun x a' _ X Y row hs hg hr => by obtain ⟨Bx, h1, h2, h3⟩ := hs; exact ⟨Bx, h1, row_own Bx _ rfl () X Y row h2 hg (fun r e => (hr r e).2), h3⟩)
    ?assign ?body ?done ?stop
  case assign =>
    rintro l pre x W K ⟨⟨bI1, bR1⟩, hne, hB⟩ hK
    gi_wp2
    exact hK _ _ ((KeepsOthers.alloc _ _).from _) ((Below.refl _ W).alloc hB.size _) ⟨⟨bI1.alloc _, bR1.alloc _⟩, hne, hB.alloc hB.size _⟩ ⟨W.heap.size, by have := hB.size; omega, blk_new W _, rfl⟩
  case body =>
    rintro l pre x a' W hl ⟨r, hr⟩ ⟨⟨bI1, bR1⟩, hne, hB⟩ ⟨Bx, hBx, hX, rfl⟩ hlt
    have HN := Lib.hid hne
    have HB := Lib.hid hB
    have HX := Lib.hid hX
    have cI := bI1.cell
    have cR := bR1.cell
    have fR := bR1.frozen
    have x0 : W.cell? ⟨Bx, 0, none⟩ = some (.int .i64 x.2.1) := (cell_of_row _ _ 0 _ _ _ hX).trans rfl
    have x1 : W.cell? ⟨Bx, 1, none⟩ = some (.string x.2.2) := (cell_of_row _ _ 1 _ _ _ hX).trans rfl
    have hWs := hB.size
    clear hne hB hX hr
    by_cases hq : x.2.1 = i
    · have d1 : (x.2.1 == i) = true := by simpa using hq
      have HQ := Lib.hid hq
      clear hq
      gi_wp2
      refine ⟨(KeepsOthers.setCell _ _ _).from _, ?_, Lib.hid ⟨rfl, pre, x, rfl, HN.out, HQ.out⟩, (HB0.out.trans (HB.out.mono (by omega))).setCell (p := ⟨w.heap.size + 1, 0, none⟩) (by show w.heap.size ≤ w.heap.size + 1; omega) _⟩
      have hv : (((pre ++ [x]).getLast?).map (fun y : Int × Wr => y.2.2)).getD ⟨#[]⟩ = x.2.2 := by simp
      rw [hv]
      exact bR1.set _
    · have d1 : (x.2.1 == i) = false := by rw [beq_eq_false_iff_ne]; exact hq
      have HQ := Lib.hid hq
      clear hq
      gi_wp2
      exact ⟨KeepsFrom.refl _ _, Below.refl _ _, ⟨bI1, bR1⟩, Lib.hid (fun y hy => by
        rcases List.mem_append.1 hy with hy | hy
        · exact HN.out y hy
        · obtain rfl : y = x := (by simpa using hy)
          exact HQ.out), HB.out⟩
  case done =>
    rintro Dd xs W hD rfl ⟨⟨bI1, bR1⟩, hne, hB⟩ hK
    have HN := Lib.hid hne
    have HBw := Lib.hid (HB0.out.trans (hB.mono (by omega)))
    have HDW := Lib.hid (blk_below HD.out HBw.out)
    have H2W := Lib.hid (H2.out.kept HBw.out)
    have HK := Lib.hid hK
    have cI := bI1.cell
    have cR := bR1.cell
    have fR := bR1.frozen
    clear hne hB hK
    obtain ⟨hi0, hi1⟩ := HI.out
    obtain ⟨k, rfl⟩ : ∃ k : Nat, i = (k : Int) := ⟨i.toNat, by omega⟩
    have hk : k < SS.length := by omega
    obtain ⟨A2, c2, e, hr2, _, _⟩ := H2W.out.rd stC_len
    injection e with e1 e2 e3
    subst e1 e2 e3
    obtain ⟨b, off, _, rfl, _, hcell⟩ := hr2.at hk
    have c2 := hcell 0 (.string SS[k]) rfl
    rw [Nat.mul_one, Nat.add_zero] at c2
    have c0 : W.cell? ⟨D, 0, none⟩ = some (.slice (some ⟨b, off, none⟩) SS.length _) := (dk_cells HDW.out).1
    have HE := Lib.hid (show shw SS CC (k : Int) = SS[k] by rw [shw_miss HN.out]; simp [hk])
    clear hcell hr2
    obtain ⟨s, hs⟩ : ∃ s, s = SS[k] := ⟨_, rfl⟩
    rw [← hs] at c2 HE
    clear hs
    gi_wp2
    gi_region
    all_goals
      gi_wp2
      have hK' : ((W.setCell ⟨w.heap.size + 1, 0, none⟩ (.string s)).drew).heap[Dd]? = some (.deferred (some [])) := (KeepsOthers.setCell W ⟨w.heap.size + 1, 0, none⟩ (.string s)).same Dd _ HK.out rfl
      have hc5 : ((W.setCell ⟨w.heap.size + 1, 0, none⟩ (.string s)).drew).cell? ⟨w.heap.size + 1, 0, none⟩ = some (.string s) := World.cell?_setCell_same' W ⟨w.heap.size + 1, 0, none⟩ (.string s) (by rw [cR]; rfl)
      refine ⟨by simp, .inl ⟨_, _, rfl, run_takeDeferred hK', ?_⟩⟩
      have hc6 := cell_kept hc5 (grownBy_putObj' _ Dd (.deferred none)) (fun r e => by cases e; exact ⟨_, hK', rfl⟩)
      refine ⟨.string s, ?_, by rw [HE.out], ((HBw.out.setCell (p := ⟨w.heap.size + 1, 0, none⟩) (by show w.heap.size ≤ w.heap.size + 1; omega) _).drew).trans (belowK_b (w := w) (Nat.le_refl _) _ Dd _ _ (by omega) hK' rfl rfl)⟩
      simp [results, Tryz.f55, go_sem, hc6]
  case stop =>
    rintro Dd c pre W hD hpre ⟨bR1, hx, hB⟩ hK
    obtain ⟨rfl, q, x, rfl, hq, hxi⟩ := hx.out
    have hv : (((q ++ [x]).getLast?).map (fun y : Int × Wr => y.2.2)).getD ⟨#[]⟩ = x.2.2 := by simp
    rw [hv] at bR1
    have HS := Lib.hid (shw_hit (SS := SS) hpre hq hxi)
    gi_wp2
    refine ⟨by simp, .inl ⟨_, _, rfl, run_takeDeferred hK, ?_⟩⟩
    have hc5 := cell_kept bR1.cell (grownBy_putObj' _ Dd (.deferred none)) (fun r e => by cases e; exact ⟨_, hK, rfl⟩)
    refine ⟨.string x.2.2, ?_, by rw [HS.out], hB.trans (belowK_b (w := w) (Nat.le_refl _) W Dd _ _ (by omega) hK rfl rfl)⟩
    simp [results, Tryz.f55, go_sem, hc5]
end Go.Proofs.YtagenkofoacajaaGreatDoor

namespace Go.Proofs.YtagenkofoacajaaGreatDoor
open Go.RowKit Vi

theorem dshow_any (D : Nat) (SS : List ByteArray) (CC : List Wr) (dn : Bool) (ops fu : Int) (i : Int) (w : World) (h : DK D SS CC dn ops fu w) (hi : 0 ≤ i ∧ i < (SS.length : Int)) (hl : CC.length ≤ 1000000) :
    Calls Tryz.prog 55 #[.pointer (some ⟨D, 0, none⟩), .int .i64 i] w fun e W' => e = .returned (.string (shw SS CC i)) ∧ Below w.heap.size w W' :=
  (callsIn_wide (n := 6)).1 (dshow_in Fence.wide 6 trivial trivial trivial rfl (by omega) D SS CC dn ops fu i w h hi hl)
theorem DK.hasIs {D : Nat} {SS : List ByteArray} {CC : List Wr} {dn : Bool} {ops fu : Int} {w : World} (h : DK D SS CC dn ops fu w) (i : Int) : Calls Tryz.prog 54 #[.pointer (some ⟨D, 0, none⟩), .int .i64 i] w fun e w' => e = .returned (.bool (decide (0 ≤ i ∧ i < (SS.length : Int)))) ∧ w = w' := by
  obtain ⟨⟨sa, sn, sc, ca, cn, cc, h1, h2, h3⟩, _⟩ := h
  have hl : sn = SS.length := by
    obtain ⟨A, c, e, _, _, _⟩ := h2.rd stC_len
    injection e
  rw [← hl]
  exact dhas_any D sa sn sc i w (dk_cells h1).1
set_option maxRecDepth 100000 in
theorem dread_down (D : Nat) (SS : List ByteArray) (CC : List Wr) (ops fu : Int) (i : Int) (w : World) (h : DK D SS CC true ops fu w) :
    Calls Tryz.prog 29 #[.pointer (some ⟨D, 0, none⟩), .int .i64 i] w fun e w' => e = .returned (.tuple #[.string ⟨#[]⟩, .int .i64 7]) ∧ w = w' := by
  have HR := Lib.hid h.readyIs
  clear h
  go_enter Tryz.func29, Tryz.ntmps29
  go_wp2_with fail
  refine HR.out.mono ?_
  rintro e w' ⟨rfl, rfl⟩
  go_wp2_with fail
  go_ret2
  exact ⟨rfl, rfl⟩
set_option maxRecDepth 100000 in
theorem dread_no (D : Nat) (SS : List ByteArray) (CC : List Wr) (ops fu : Int) (i : Int) (w : World) (h : DK D SS CC false ops fu w) (hi : ¬ (0 ≤ i ∧ i < (SS.length : Int))) :
    Calls Tryz.prog 29 #[.pointer (some ⟨D, 0, none⟩), .int .i64 i] w fun e w' => e = .returned (.tuple #[.string ⟨#[]⟩, .int .i64 8]) ∧ w = w' := by
  have HR := Lib.hid h.readyIs
  have HH := h.hasIs i
  rw [decide_eq_false hi] at HH
  have HH := Lib.hid HH
  clear h hi
  go_enter Tryz.func29, Tryz.ntmps29
  go_wp2_with fail
  refine HR.out.mono ?_
  rintro e w' ⟨rfl, rfl⟩
  go_wp2_with fail
  refine HH.out.mono ?_
  rintro e w' ⟨rfl, rfl⟩
  go_wp2_with fail
  go_ret2
  exact ⟨rfl, rfl⟩
set_option maxRecDepth 100000 in
theorem dread_up (D : Nat) (SS : List ByteArray) (CC : List Wr) (ops fu : Int) (i : Int) (w : World) (h : DK D SS CC false ops fu w) (hi : 0 ≤ i ∧ i < (SS.length : Int)) (hl : CC.length ≤ 1000000) (ho : -1000000000 ≤ ops ∧ ops ≤ 1000000000) :
    Calls Tryz.prog 29 #[.pointer (some ⟨D, 0, none⟩), .int .i64 i] w fun e w' => e = .returned (.tuple #[.string (shw SS CC i), .int .i64 0]) ∧ DK D SS CC false (ops + 1) fu w' ∧ Kd D w w' := by
  have HR := Lib.hid h.readyIs
  have HH := h.hasIs i
  rw [decide_eq_true hi] at HH
  have HH := Lib.hid HH
  have HI := Lib.hid hi
  obtain ⟨⟨sa, sn, sc, ca, cn, cc, h1, h2, h3⟩, h4⟩ := h
  have H1 := Lib.hid h1
  have H2 := Lib.hid h2
  have H3 := Lib.hid h3
  have H4 := Lib.hid h4
  have c4 : w.cell? ⟨D, 4, none⟩ = some (.int .i64 ops) := (dk_cells h1).2.2.2.2.1
  have f4 : w.frozen? ⟨D, 4, none⟩ = false := frozen_of_row _ _ _ _ _ h1
  have w2 : IntKind.i64.wrap (ops + 1) = ops + 1 := IntWalk.i64_in _ (by omega)
  clear h1 h2 h3 h4 hi
  go_enter Tryz.func29, Tryz.ntmps29
  go_wp2_with fail
  refine HR.out.mono ?_
  rintro e w' ⟨rfl, rfl⟩
  go_wp2_with fail
  refine HH.out.mono ?_
  rintro e w' ⟨rfl, rfl⟩
  go_wp2_with fail
  have HK := Lib.hid ((KK.refl [D] w).set (b := D) (by simp) 4 (.int .i64 (ops + 1)))
  have HB := Lib.hid (show (w.setCell ⟨D, 4, none⟩ (.int .i64 (ops + 1))).heap[D]? = some (dkO sa sn sc ca cn cc true false (ops + 1) fu) from heap_setCell_at (i := 4) (u := .int .i64 (ops + 1)) H1.out)
  have HO2 := Lib.hid (H2.out.kkD HK.out H1.out (by decide))
  have HO3 := Lib.hid (H3.out.kkD HK.out H1.out (by decide))
  have HKd := Lib.hid (Kd.of_same HK.out H1.out HB.out)
  clear c4 f4 w2
  generalize (w.setCell ⟨D, 4, none⟩ (.int .i64 (ops + 1))) = v at *
  have HD : Hid (DK D SS CC false (ops + 1) fu v) := Lib.hid ⟨⟨sa, sn, sc, ca, cn, cc, HB.out, HO2.out, HO3.out⟩, H4.out⟩
  have HS := Lib.hid (dshow_any D SS CC false (ops + 1) fu i v HD.out HI.out hl)
  refine HS.out.mono ?_
  rintro e w1 ⟨rfl, hb⟩
  have HD1 := Lib.hid (HD.out.kept hb)
  have HK1 := Lib.hid (HKd.out.trans (Kd.of_below hb HD.out.lt))
  clear hb
  go_wp2_with fail
  go_ret2
  exact ⟨rfl, HD1.out, HK1.out⟩
end Go.Proofs.YtagenkofoacajaaGreatDoor
