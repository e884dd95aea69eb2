/- What becomes of labels and properties, and the walk of ElemTurns: XElw and XLelemturns in one (a claim holds 60 files) -/
import Derived.Test.YtdjjabjegmbmaaaPr
import Derived.Test.YtdjjabjegmbmaaaZb
import Derived.Lib.AppendZerosOnto
import Derived.Test.YtdjjabjegmbmaaaAc
import Derived.Test.YtdjjabjegmbmaaaAd
import Derived.Test.YtdjjabjegmbmaaaNp
import Derived.IntWalk
import Derived.Deep.DeepCutAuto
import Derived.Test.YtdjjabjegmbmaaaPx
import Derived.Laws.OwnMore
import Derived.Deep.RegionLaw
import Derived.Test.YtdjjabjegmbmaaaAf
import Derived.Test.YtdjjabjegmbmaaaElu
import Derived.Test.YtdjjabjegmbmaaaAa
import Derived.Test.YtdjjabjegmbmaaaElt
namespace Go.Proofs.Ytdjjabjegmbmaaa
open Go.RowKit

theorem flat_inv {α : Type} {f : α → List Value} {s : Nat} (hf : ∀ x, (f x).length = s) (hs0 : 0 < s) (l : List α) (j : Nat) (u : Value) (h : (flat f l)[j]? = some u) : ∃ (k r : Nat) (x : α), j = k * s + r ∧ l[k]? = some x ∧ (f x)[r]? = some u := by
  have hj := (List.getElem?_eq_some_iff.1 h).1
  rw [flat_len hf] at hj
  have hk : j / s < l.length := (Nat.div_lt_iff_lt_mul hs0).2 hj
  have hr : j % s < s := Nat.mod_lt _ hs0
  have hx : l[j / s]? = some l[j / s] := List.getElem?_eq_getElem hk
  have hu : (f l[j / s])[j % s]? = some ((f l[j / s])[j % s]'(by rw [hf]; exact hr)) := List.getElem?_eq_getElem _
  have e : j / s * s + j % s = j := by rw [Nat.mul_comm]; exact Nat.div_add_mod j s
  have hg := flat_get hf l (j / s) (j % s) _ _ hx hu
  rw [e, h] at hg
  exact ⟨j / s, j % s, _, e.symm, hx, by rw [hu]; exact hg.symm⟩
theorem run_appNil {α : Type} {f : α → List Value} {s : Nat} {w : World} {t e : TypeId} {z : Value} {bytes : Nat} (hu : Try.prog.underlying t = some (.slice e)) (hinfo : (Try.prog.info? e).map (fun i => (i.zero, i.size, i.bytes)) = some (some z, s, bytes))
    (ty : TypeId) (B : Nat) (v : Value) (l : List α) (hown : OwX f s e w B v l) (c : Nat) :
    (Builtin.append_ #[t, t] ty #[v, .slice none 0 c]).run Try.prog w = .ok v w := by
  obtain ⟨i0, hi, _, hz1, _⟩ := info_parts hinfo
  have hu' := run_underlying (P := Try.prog) hu
  rcases hown.2 with ⟨rfl, h0⟩ | ⟨g, cap, cur, rfl, _, _, hnc, _⟩
  · simp [Builtin.append_, hu', sizeOf, typeInfo, hi, Builtin.lenOf, Builtin.firstCells]
  · simp [Builtin.append_, hu', sizeOf, typeInfo, hi, Builtin.lenOf, Builtin.firstCells, hnc, storeCells]
theorem run_appXs {α : Type} {f : α → List Value} {s : Nat} {w : World} {t e : TypeId} {z : Value} {bytes : Nat} (hu : Try.prog.underlying t = some (.slice e)) (hinfo : (Try.prog.info? e).map (fun i => (i.zero, i.size, i.bytes)) = some (some z, s, bytes)) (hz : z.cells.size = s) (hs0 : 0 < s) (hby : bytes ≤ 100)
    (hf : ∀ x, (f x).length = s) (h1 : ∀ x, ∀ u ∈ f x, u.oneCell' = true) (ty : TypeId) (B : Nat) (v : Value) (l : List α) (hown : OwX f s e w B v l)
    (A : Option Addr) (m c : Nat) (ys : List α) (hr : RdX f s w A m ys) (hm : l.length + m ≤ 1000000) (hbase : B ≤ w.heap.size) :
    ∃ v' w', (Builtin.append_ #[t, t] ty #[v, .slice A m c]).run Try.prog w = .ok v' w' ∧ OwX f s e w' B v' (l ++ ys) ∧ w.grownBy w' v.ownBlock := by
  have hl := hr.1
  rcases A with _ | ad
  · have h0 : m = 0 := by
      rcases Nat.eq_zero_or_pos m with h0 | h0
      · exact h0
      · obtain ⟨b, off, e, _⟩ := hr.2 h0
        cases e
    subst h0
    have e0 : ys = [] := List.length_eq_zero_iff.1 hl
    subst e0
    exact ⟨v, w, run_appNil hu hinfo ty B v l hown c, by rw [List.append_nil]; exact hown, World.grownBy.refl w _⟩
  · obtain ⟨i0, hi, hz0, hz1, hz2⟩ := info_parts hinfo
    have hmul : (l.length + m) * bytes ≤ 1000000 * 100 := Nat.mul_le_mul hm hby
    have hcells : ∀ j u, (flat f ys)[j]? = some u → w.cell? (ad.add j) = some u := by
      intro j u hj
      obtain ⟨k, r, x, rfl, hx, hu2⟩ := flat_inv hf hs0 ys j u hj
      have hk := (List.getElem?_eq_some_iff.1 hx).1
      obtain ⟨b, off, e1, _, hc⟩ := hr.2 (by omega)
      cases e1
      rw [Addr.add_lit]
      have := hc k x r u hx hu2
      rwa [Nat.add_assoc] at this
    obtain ⟨v', w', hrun, h2, h3, _, _⟩ := run_append_own_at (P := Try.prog) w B t ty e i0 z s bytes hu hi hz0 hz1 hz2 hz hs0 v l.length (flat f l) hown ad m c (flat f ys)
      (by rw [flat_len hf, hl]) hcells (fun u hu2 => by
        unfold flat at hu2
        obtain ⟨x, _, hx⟩ := List.mem_flatMap.1 hu2
        exact h1 x u hx) (by unfold maxLen; omega) (by omega) hbase
    refine ⟨v', w', hrun, ?_, h3⟩
    unfold OwX
    rw [List.length_append, flat_app, hl]
    exact h2
theorem wpList_appXs {α : Type} {f : α → List Value} {s : Nat} {ops : Array Oper} {rest : List Oper} {o : Oper} {a : Act} {Q : Exit → Act → World → Prop} {w : World} (hgd : o.guard = none) (sl xo : Operand) (t e : TypeId) (z : Value) (bytes : Nat)
    (ho : o.op = .call { callee := .builtin .append, args := #[sl, xo], argTypes := #[t, t] })
    (hu : Try.prog.underlying t = some (.slice e)) (hinfo : (Try.prog.info? e).map (fun i => (i.zero, i.size, i.bytes)) = some (some z, s, bytes)) (hz : z.cells.size = s) (hs0 : 0 < s) (hby : bytes ≤ 100)
    (hf : ∀ x, (f x).length = s) (h1 : ∀ x, ∀ u ∈ f x, u.oneCell' = true)
    (B : Nat) (w0 : World) (hb : Below B w0 w) (hB : B ≤ w.heap.size) (v : Value) (l : List α) (hs : a.eval sl = v) (hown : OwX f s e w B v l)
    (A : Option Addr) (m c : Nat) (ys : List α) (hx : a.eval xo = .slice A m c) (hr : RdX f s w A m ys) (hm : l.length + m ≤ 1000000)
    (h : ∀ v' w', Hid (OwX f s e w' B v' (l ++ ys)) → Hid (Below B w0 w') → Hid (B ≤ w'.heap.size) → Hid (w.grownBy w' v.ownBlock) → wpList Try.prog ops Q rest (a.put o.dst v') w') : wpList Try.prog ops Q (o :: rest) a w := by
  refine wpList_plain hgd fun K hK => ?_
  obtain ⟨v', w', hrun, h2, h3⟩ := run_appXs hu hinfo hz hs0 hby hf h1 o.type B v l hown A m c ys hr hm hB
  unfold Oper.wp execOp
  simp only [ho, resolve, invoke, builtin, Sem.run_bind, Sem.run_pure, Result.andThen_ok, List.map_toArray, List.map_cons, List.map_nil, hs, hx, hrun]
  exact hK _ _ (h v' w' h2 (hb.grown h3 hB (fun k hk => (World.ownsRow.lt hown k hk).1)) (Nat.le_trans hB h3.size) h3)
theorem step_appXs {α : Type} {f : α → List Value} {s : Nat} {ops : Array Oper} {o : Oper} {a : Act} {K : Act → World → Prop} {Q : Exit → Act → World → Prop} {E : Prop} {w : World} (hgd : o.guard = none) (sl xo : Operand) (t e : TypeId) (z : Value) (bytes : Nat)
    (ho : o.op = .call { callee := .builtin .append, args := #[sl, xo], argTypes := #[t, t] })
    (hu : Try.prog.underlying t = some (.slice e)) (hinfo : (Try.prog.info? e).map (fun i => (i.zero, i.size, i.bytes)) = some (some z, s, bytes)) (hz : z.cells.size = s) (hs0 : 0 < s) (hby : bytes ≤ 100)
    (hf : ∀ x, (f x).length = s) (h1 : ∀ x, ∀ u ∈ f x, u.oneCell' = true)
    (B : Nat) (w0 : World) (hb : Below B w0 w) (hB : B ≤ w.heap.size) (v : Value) (l : List α) (hs : a.eval sl = v) (hown : OwX f s e w B v l)
    (A : Option Addr) (m c : Nat) (ys : List α) (hx : a.eval xo = .slice A m c) (hr : RdX f s w A m ys) (hm : l.length + m ≤ 1000000)
    (h : ∀ v' w', Hid (OwX f s e w' B v' (l ++ ys)) → Hid (Below B w0 w') → Hid (B ≤ w'.heap.size) → Hid (w.grownBy w' v.ownBlock) → K (a.put o.dst v') w') :
    if Region.wanted o (yielded ops a.tmps) = true then Oper.wp Try.prog o a w K Q else E := by
  have hw : Region.wanted o (yielded ops a.tmps) = true := by simp [Region.wanted, hgd]
  rw [if_pos hw]
  obtain ⟨v', w', hrun, h2, h3⟩ := run_appXs hu hinfo hz hs0 hby hf h1 o.type B v l hown A m c ys hr hm hB
  unfold Oper.wp execOp
  simp only [ho, resolve, invoke, builtin, Sem.run_bind, Sem.run_pure, Result.andThen_ok, List.map_toArray, List.map_cons, List.map_nil, hs, hx, hrun]
  exact h v' w' h2 (hb.grown h3 hB (fun k hk => (World.ownsRow.lt hown k hk).1)) (Nat.le_trans hB h3.size) h3
theorem OwX.zero {α : Type} {f : α → List Value} {s : Nat} {T : TypeId} {W : World} {p B c : Nat} {cs : Array Value} (h : W.heap[p]? = some (.cells cs T (0, 0))) (hB : B ≤ p) (hc : c ≤ maxLen) (hz : cs.size = c * s) : OwX f s T W B (.slice (some ⟨p, 0, none⟩) 0 c) [] :=
  ⟨by simp [flat], .inr ⟨p, c, cs, rfl, hB, h, Nat.zero_le _, hc, hz, by simp [flat]⟩⟩
theorem RdX.take {α : Type} {f : α → List Value} {s : Nat} {w : World} {A : Option Addr} {n : Nat} {l : List α} (h : RdX f s w A n l) (k : Nat) (hk : k ≤ n) : RdX f s w A k (l.take k) :=
  ⟨by rw [List.length_take, h.1]; omega, fun hp => by
    obtain ⟨b, off, e, hlt, hc⟩ := h.2 (by omega)
    refine ⟨b, off, e, hlt, fun i x j u hx hu => hc i x j u ?_ hu⟩
    rw [List.getElem?_take] at hx
    split at hx
    · exact hx
    · cases hx⟩
/-- the address at which a slice that is cut at its front begins -/
def cutX (s : Nat) (A : Option Addr) (c k : Nat) : Option Addr := if c = k then A else A.map (·.add (k * s))
theorem RdX.drop {α : Type} {f : α → List Value} {s : Nat} {w : World} {A : Option Addr} {n c : Nat} {l : List α} (h : RdX f s w A n l) (k : Nat) (hk : k ≤ n) (hc : n ≤ c) : RdX f s w (cutX s A c k) (n - k) (l.drop k) :=
  ⟨by rw [List.length_drop, h.1], fun hp => by
    obtain ⟨b, off, e, hlt, hcl⟩ := h.2 (by omega)
    subst e
    refine ⟨b, off + k * s, ?_, hlt, fun i x j u hx hu => ?_⟩
    · unfold cutX
      rw [if_neg (by omega)]
      show some (Addr.add ⟨b, off, none⟩ (k * s)) = _
      rw [Addr.add_lit]
    · rw [List.getElem?_drop] at hx
      have := hcl (k + i) x j u hx hu
      rw [Nat.add_mul, ← Nat.add_assoc off] at this
      exact this⟩
end Go.Proofs.Ytdjjabjegmbmaaa

namespace Go.Proofs.Ytdjjabjegmbmaaa
open Go.RowKit Vi

def keysP (ps : List Pr) : List ByteArray := ps.map (·.1)
theorem keysP_len (ps : List Pr) : (keysP ps).length = ps.length := by unfold keysP; simp
theorem keysP_at (ps : List Pr) (k : Nat) (h : k < ps.length) : (keysP ps)[k]'(by rw [keysP_len]; exact h) = ps[k].1 := by unfold keysP; simp
def ltP (x : ByteArray) (p : Pr) : Bool := Op.bytesLess p.1.toList x.toList
def gtP (x : ByteArray) (p : Pr) : Bool := Op.bytesLess x.toList p.1.toList
def setL (ps : List Pr) (p : Pr) : List Pr := ps.filter (ltP p.1) ++ [p] ++ ps.filter (gtP p.1)
theorem prE_row : ∀ (p : ByteArray) (ps : List Pr), prE p ps = 0 → rowE p (keysP ps) = 0
  | _, [], _ => rfl
  | p, x :: r, h => by
    unfold prE at h
    split at h
    · cases h
    · next h1 =>
      split at h
      · cases h
      · next h2 =>
        have hn : nm x.1 = true := okP_nm (by simpa using h1)
        show rowE p (x.1 :: keysP r) = 0
        rw [rowE_go p x.1 _ hn (by simpa using h2)]
        exact prE_row _ r h
theorem prE_rise {ps : List Pr} (h : prE ⟨#[]⟩ ps = 0) : Rise (keysP ps) := (row0_ok _ (prE_row _ ps h)).2
theorem filt_cut {α : Type} (p : α → Bool) (l : List α) (K : Nat) (h1 : ∀ t (h : t < l.length), t < K → p l[t] = true) (h2 : ∀ t (h : t < l.length), K ≤ t → p l[t] = false) : l.filter p = l.take K := by
  have e : l.filter p = (l.take K ++ l.drop K).filter p := by rw [List.take_append_drop]
  rw [e, List.filter_append, List.filter_eq_self.2, List.filter_eq_nil_iff.2, List.append_nil]
  · intro a ha
    obtain ⟨i, hi, rfl⟩ := List.getElem_of_mem ha
    rw [List.getElem_drop]
    rw [List.length_drop] at hi
    rw [h2 (K + i) (by omega) (by omega)]; simp
  · intro a ha
    obtain ⟨i, hi, rfl⟩ := List.getElem_of_mem ha
    rw [List.getElem_take]
    rw [List.length_take] at hi
    exact h1 i (by omega) (by omega)
theorem filt_cut2 {α : Type} (p : α → Bool) (l : List α) (K : Nat) (h1 : ∀ t (h : t < l.length), t < K → p l[t] = false) (h2 : ∀ t (h : t < l.length), K ≤ t → p l[t] = true) : l.filter p = l.drop K := by
  have e : l.filter p = (l.take K ++ l.drop K).filter p := by rw [List.take_append_drop]
  rw [e, List.filter_append, List.filter_eq_nil_iff.2, List.filter_eq_self.2, List.nil_append]
  · intro a ha
    obtain ⟨i, hi, rfl⟩ := List.getElem_of_mem ha
    rw [List.getElem_drop]
    rw [List.length_drop] at hi
    exact h2 (K + i) (by omega) (by omega)
  · intro a ha
    obtain ⟨i, hi, rfl⟩ := List.getElem_of_mem ha
    rw [List.getElem_take]
    rw [List.length_take] at hi
    rw [h1 i (by omega) (by omega)]; simp
/-- where a key stands, or would stand -/
def lesP (ps : List Pr) (x : ByteArray) : Nat := lessN (keysP ps) x
def inP (ps : List Pr) (x : ByteArray) : Bool := inB (keysP ps) x
theorem lesP_le (ps : List Pr) (x : ByteArray) : lesP ps x ≤ ps.length := by
  have := lessN_le (keysP ps) x
  rw [keysP_len] at this
  exact this
theorem lt_take {ps : List Pr} {x : ByteArray} (hr : Rise (keysP ps)) : ps.filter (ltP x) = ps.take (lesP ps x) := by
  obtain ⟨_, h1, h2⟩ := cut_of (keysP ps) x hr
  refine filt_cut _ _ _ (fun t h ht => ?_) (fun t h ht => ?_)
  · have := h1 t (by rw [keysP_len]; exact h) ht
    rw [keysP_at ps t h] at this; exact this
  · have := h2 t (by rw [keysP_len]; exact h) ht
    rw [keysP_at ps t h] at this; exact this
theorem in_at {ps : List Pr} {x : ByteArray} (hr : Rise (keysP ps)) (h : inP ps x = true) : ∃ hk : lesP ps x < ps.length, ps[lesP ps x].1 = x := by
  have h1 := in_met (x := x) hr
  have h2 : metB (keysP ps) x (lessN (keysP ps) x) = true := by rw [h1]; exact h
  obtain ⟨hk, he⟩ := met_at h2
  have hk' : lesP ps x < ps.length := by rw [keysP_len] at hk; exact hk
  exact ⟨hk', by rw [← keysP_at ps _ hk']; exact he⟩
theorem in_idx {ps : List Pr} {x : ByteArray} (hr : Rise (keysP ps)) (i : Nat) (hi : i < ps.length) (he : ps[i].1 = x) : i = lesP ps x ∧ inP ps x = true := by
  have hi' : i < (keysP ps).length := by rw [keysP_len]; exact hi
  have he' : (keysP ps)[i] = x := by rw [keysP_at ps i hi]; exact he
  exact ⟨cut_idx hr i hi' he', mem_in.2 (by rw [← he']; exact List.getElem_mem hi')⟩
theorem gt_drop {ps : List Pr} {x : ByteArray} (hr : Rise (keysP ps)) : ps.filter (gtP x) = ps.drop (if inP ps x = true then lesP ps x + 1 else lesP ps x) := by
  obtain ⟨_, h1, h2⟩ := cut_of (keysP ps) x hr
  have key : ∀ t (h : t < ps.length), (t < lesP ps x → ltP x ps[t] = true) ∧ (lesP ps x ≤ t → ltP x ps[t] = false) := fun t h => by
    have a1 := h1 t (by rw [keysP_len]; exact h)
    have a2 := h2 t (by rw [keysP_len]; exact h)
    rw [keysP_at ps t h] at a1 a2
    exact ⟨a1, a2⟩
  have no : ∀ p : Pr, ltP x p = true → gtP x p = false := fun p hp => by
    cases hg : gtP x p with
    | false => rfl
    | true =>
      have := bl_trans _ _ _ hp hg
      rw [bl_irrefl] at this
      cases this
  refine filt_cut2 _ _ _ (fun t h ht => ?_) (fun t h ht => ?_)
  · by_cases hlt : t < lesP ps x
    · exact no _ ((key t h).1 hlt)
    · split at ht
      · next hin =>
        obtain ⟨hk, he⟩ := in_at hr hin
        have e : t = lesP ps x := by omega
        subst e
        show Op.bytesLess x.toList ps[lesP ps x].1.toList = false
        rw [he]; exact bl_irrefl _
      · omega
  · cases hg : gtP x ps[t] with
    | true => rfl
    | false =>
      exfalso
      have hl := (key t h).2 (by split at ht <;> omega)
      have e : ps[t].1.toList = x.toList := bl_total _ _ hl hg
      have e2 : ps[t].1 = x := ba_ext e
      obtain ⟨e3, e4⟩ := in_idx hr t h e2
      rw [if_pos e4] at ht
      omega
theorem setL_at {ps : List Pr} {p : Pr} (hr : Rise (keysP ps)) : setL ps p = (ps.take (lesP ps p.1) ++ [p]) ++ ps.drop (if inP ps p.1 = true then lesP ps p.1 + 1 else lesP ps p.1) := by
  unfold setL
  rw [lt_take hr, gt_drop hr]
theorem cmpS_less {s x : ByteArray} (h : Op.bytesLess s.toList x.toList = true) : cmpS s x = -1 := by unfold cmpS; rw [if_pos h]
theorem cmpS_not {s x : ByteArray} (h : Op.bytesLess s.toList x.toList = false) : 0 ≤ cmpS s x := by
  unfold cmpS
  rw [if_neg (by rw [h]; simp)]
  split <;> omega
theorem cmpS_eq {s x : ByteArray} : (cmpS s x == 0) = (s.toList == x.toList) := by
  unfold cmpS
  cases h1 : Op.bytesLess s.toList x.toList with
  | true =>
    rw [if_pos rfl]
    symm
    rw [beq_eq_false_iff_ne.2]
    · rfl
    · intro e; rw [e, bl_irrefl] at h1; cases h1
  | false =>
    rw [if_neg (by simp)]
    cases h2 : Op.bytesLess x.toList s.toList with
    | true =>
      rw [if_pos rfl]
      symm
      rw [beq_eq_false_iff_ne.2]
      · rfl
      · intro e; rw [e, bl_irrefl] at h2; cases h2
    | false =>
      rw [if_neg (by simp), bl_total _ _ h1 h2]
      simp
set_option maxRecDepth 100000 in
set_option maxHeartbeats 1000000 in
theorem find1_any (s : ByteArray) (a d : Int) (t x : ByteArray) (w : World) :
    Calls Try.prog 152 #[.agg #[.string s, .int .i64 a, .int .i64 d, .string t], .string x] w fun e w' => e = .returned (.int .i64 (cmpS s x)) ∧ Below w.heap.size w w' := by
  have HB1 := Lib.hid (Below.refl w.heap.size w)
  go_enter Try.func152, Try.ntmps152
  have HF2 := Lib.hid (blk_new w (.cells #[.string s, .int .i64 a, .int .i64 d, .string t] 140 (0, 0)))
  have HB3 := Lib.hid (HB1.out.alloc HB1.out.size (.cells #[.string s, .int .i64 a, .int .i64 d, .string t] 140 (0, 0)))
  clear HB1
  have hc4 : (w.alloc (.cells #[.string s, .int .i64 a, .int .i64 d, .string t] 140 (0, 0))).cell? ⟨w.heap.size, 0, none⟩ = some (.string s) := by rw [cell_of_row _ _ _ _ _ _ HF2.out]; rfl
  have hc5 : (w.alloc (.cells #[.string s, .int .i64 a, .int .i64 d, .string t] 140 (0, 0))).cell? ⟨w.heap.size, 1, none⟩ = some (.int .i64 a) := by rw [cell_of_row _ _ _ _ _ _ HF2.out]; rfl
  have hc6 : (w.alloc (.cells #[.string s, .int .i64 a, .int .i64 d, .string t] 140 (0, 0))).cell? ⟨w.heap.size, 2, none⟩ = some (.int .i64 d) := by rw [cell_of_row _ _ _ _ _ _ HF2.out]; rfl
  have hc7 : (w.alloc (.cells #[.string s, .int .i64 a, .int .i64 d, .string t] 140 (0, 0))).cell? ⟨w.heap.size, 3, none⟩ = some (.string t) := by rw [cell_of_row _ _ _ _ _ _ HF2.out]; rfl
  go_wp2_with fail
  refine (cmpS_any s x (w.alloc (.cells #[.string s, .int .i64 a, .int .i64 d, .string t] 140 (0, 0)))).mono ?_
  rintro e w' ⟨rfl, rfl⟩
  go_wp2_with fail
  go_ret
  exact ⟨rfl, HB3.out⟩
set_option maxHeartbeats 4000000 in
set_option maxRecDepth 100000 in
theorem bsf_any (A : Option Addr) (n c : Nat) (ps : List Pr) (x : ByteArray) (K : Nat) (w : World) (h : RdX prC 4 w A n ps) (hn : n ≤ 1000000) (hK : Cut (keysP ps) x K) :
    Calls Try.prog 151 #[.slice A n c, .string x, .func (.func 152) #[] #[]] w fun e w' => e = .returned (.tuple #[.int .i64 (K : Int), .bool (metB (keysP ps) x K)]) ∧ Below w.heap.size w w' := by
  have H := Lib.hid h
  have HL := Lib.hid h.1
  obtain ⟨hk0, h1, h2⟩ := hK
  rw [keysP_len, h.1] at hk0
  have H1 := Lib.hid h1
  have H2 := Lib.hid h2
  clear h h1 h2
  go_enter Try.func151, Try.ntmps151
  go_wp2
  go_loopw [9, 10, 11] (fun i j _ wr => ∃ (lo hi : Nat), i = .int .i64 (lo : Int) ∧ j = .int .i64 (hi : Int) ∧ lo ≤ K ∧ K ≤ hi ∧ hi ≤ n ∧ Below w.heap.size w wr) (fun i j _ _ => (intOf j - intOf i).toNat)
  case atStart => exact ⟨0, n, rfl, rfl, by omega, hk0, Nat.le_refl _, Below.refl _ _⟩
  case round =>
    obtain ⟨lo, hi, rfl, rfl, hlo, hhi, hln, hb⟩ := hrel
    have HB := Lib.hid hb
    clear hb
    by_cases hlt : (lo : Int) < hi
    · obtain ⟨m, hm⟩ : ∃ m, m = (lo + hi) / 2 := ⟨_, rfl⟩
      have hml : lo ≤ m := by omega
      have hmh : m < hi := by omega
      have hmn : m < n := by omega
      have hme : ((lo : Int) + hi) / 2 = (m : Int) := by omega
      obtain ⟨b, off, hl, rfl, hbb, _⟩ := (H.out.below HB.out).at hmn
      have hms : m < (keysP ps).length := by rw [keysP_len]; exact hl
      have HKA := Lib.hid (keysP_at ps m hl)
      obtain ⟨y, hy⟩ : ∃ y, ps[m] = y := ⟨_, rfl⟩
      have HX := Lib.hid (show ps[m]? = some y by rw [List.getElem?_eq_getElem hl, hy])
      rw [hy] at HKA
      obtain ⟨s, a, d, t⟩ := y
      have hi0 : (0 : Int) ≤ (m : Int) := by omega
      have hi1 : (m : Int) < (n : Int) := by omega
      clear hm hy
      by_cases hmk : m < K
      · have HV := Lib.hid (cmpS_less (show Op.bytesLess s.toList x.toList = true by have := H1.out m hms hmk; rw [HKA.out] at this; exact this))
        have HF := Lib.hid (fun W : World => find1_any s a d t x W)
        rw [HV.out] at HF
        have hc101 : wr.cell? ⟨b, off + m * 4, none⟩ = some (.string s) := (H.out.below HB.out).cellAt HX.out hmn 0 _ rfl
        have hc102 : wr.cell? ⟨b, off + m * 4 + 1, none⟩ = some (.int .i64 a) := (H.out.below HB.out).cellAt HX.out hmn 1 _ rfl
        have hc103 : wr.cell? ⟨b, off + m * 4 + 2, none⟩ = some (.int .i64 d) := (H.out.below HB.out).cellAt HX.out hmn 2 _ rfl
        have hc104 : wr.cell? ⟨b, off + m * 4 + 3, none⟩ = some (.string t) := (H.out.below HB.out).cellAt HX.out hmn 3 _ rfl
        go_wp2_with fail
        clear hc101 hc102 hc103 hc104
        refine (HF.out wr).mono ?_
        rintro e w11 ⟨rfl, hb11⟩
        have HB105 := Lib.hid (HB.out.trans (hb11.mono HB.out.size))
        clear hb11 HB 
        go_wp2_with fail
        go_roundw
        case rel => exact ⟨m + 1, hi, by go_num, rfl, by omega, hhi, hln, HB105.out⟩
        case measure => simp [intOf] <;> omega
      · have hv := cmpS_not (show Op.bytesLess s.toList x.toList = false by have := H2.out m hms (by omega); rw [HKA.out] at this; exact this)
        have HF := Lib.hid (fun W : World => find1_any s a d t x W)
        generalize cmpS s x = z at hv HF
        have hz : decide (z < 0) = false := decide_eq_false (by omega)
        have hc101 : wr.cell? ⟨b, off + m * 4, none⟩ = some (.string s) := (H.out.below HB.out).cellAt HX.out hmn 0 _ rfl
        have hc102 : wr.cell? ⟨b, off + m * 4 + 1, none⟩ = some (.int .i64 a) := (H.out.below HB.out).cellAt HX.out hmn 1 _ rfl
        have hc103 : wr.cell? ⟨b, off + m * 4 + 2, none⟩ = some (.int .i64 d) := (H.out.below HB.out).cellAt HX.out hmn 2 _ rfl
        have hc104 : wr.cell? ⟨b, off + m * 4 + 3, none⟩ = some (.string t) := (H.out.below HB.out).cellAt HX.out hmn 3 _ rfl
        go_wp2_with fail
        clear hc101 hc102 hc103 hc104
        refine (HF.out wr).mono ?_
        rintro e w11 ⟨rfl, hb11⟩
        have HB105 := Lib.hid (HB.out.trans (hb11.mono HB.out.size))
        clear hb11 HB 
        go_wp2_with fail
        go_roundw
        case rel => exact ⟨lo, m, rfl, rfl, hlo, by omega, by omega, HB105.out⟩
        case measure => simp [intOf] <;> omega
    · obtain rfl : lo = K := by omega
      obtain rfl : hi = lo := by omega
      clear H1 H2
      by_cases hin : hi < n
      · have hd1 : decide ((hi : Int) < (n : Int)) = true := decide_eq_true (by omega)
        obtain ⟨b, off, hl, rfl, hbb, _⟩ := (H.out.below HB.out).at hin
        have hms : hi < (keysP ps).length := by rw [keysP_len]; exact hl
        have HG := Lib.hid (show metB (keysP ps) x hi = (ps[hi].1.toList == x.toList) by unfold metB; rw [decide_eq_true hms, Bool.true_and, List.getD_eq_getElem?_getD, List.getElem?_eq_getElem hms, ← keysP_at ps hi hl]; rfl)
        obtain ⟨y, hy⟩ : ∃ y, ps[hi] = y := ⟨_, rfl⟩
        have HX := Lib.hid (show ps[hi]? = some y by rw [List.getElem?_eq_getElem hl, hy])
        rw [hy] at HG
        obtain ⟨s, a, d, t⟩ := y
        have hi0 : (0 : Int) ≤ (hi : Int) := by omega
        have HF := Lib.hid (fun W : World => find1_any s a d t x W)
        have HE := Lib.hid (cmpS_eq (s := s) (x := x))
        generalize cmpS s x = z at HF HE
        have HM := Lib.hid (show metB (keysP ps) x hi = (z == 0) by rw [HE.out, HG.out])
        clear hlt hy HG HE
        cases hzm : (z == 0)
        · have HR := Lib.hid (HM.out.trans hzm)
          have hc101 : wr.cell? ⟨b, off + hi * 4, none⟩ = some (.string s) := (H.out.below HB.out).cellAt HX.out hin 0 _ rfl
          have hc102 : wr.cell? ⟨b, off + hi * 4 + 1, none⟩ = some (.int .i64 a) := (H.out.below HB.out).cellAt HX.out hin 1 _ rfl
          have hc103 : wr.cell? ⟨b, off + hi * 4 + 2, none⟩ = some (.int .i64 d) := (H.out.below HB.out).cellAt HX.out hin 2 _ rfl
          have hc104 : wr.cell? ⟨b, off + hi * 4 + 3, none⟩ = some (.string t) := (H.out.below HB.out).cellAt HX.out hin 3 _ rfl
          go_wp2_with fail
          clear hc101 hc102 hc103 hc104
          refine (HF.out wr).mono ?_
          rintro e w11 ⟨rfl, hb11⟩
          have HB105 := Lib.hid (HB.out.trans (hb11.mono HB.out.size))
          clear hb11 HB 
          go_wp2_with fail
          go_ret2
          exact ⟨by first | (rw [HR.out]; done) | (rw [HR.out]; rfl), HB105.out⟩
        · have HR := Lib.hid (HM.out.trans hzm)
          have hc101 : wr.cell? ⟨b, off + hi * 4, none⟩ = some (.string s) := (H.out.below HB.out).cellAt HX.out hin 0 _ rfl
          have hc102 : wr.cell? ⟨b, off + hi * 4 + 1, none⟩ = some (.int .i64 a) := (H.out.below HB.out).cellAt HX.out hin 1 _ rfl
          have hc103 : wr.cell? ⟨b, off + hi * 4 + 2, none⟩ = some (.int .i64 d) := (H.out.below HB.out).cellAt HX.out hin 2 _ rfl
          have hc104 : wr.cell? ⟨b, off + hi * 4 + 3, none⟩ = some (.string t) := (H.out.below HB.out).cellAt HX.out hin 3 _ rfl
          go_wp2_with fail
          clear hc101 hc102 hc103 hc104
          refine (HF.out wr).mono ?_
          rintro e w11 ⟨rfl, hb11⟩
          have HB105 := Lib.hid (HB.out.trans (hb11.mono HB.out.size))
          clear hb11 HB 
          go_wp2_with fail
          go_ret2
          exact ⟨by first | (rw [HR.out]; done) | (rw [HR.out]; rfl), HB105.out⟩
      · have hd : decide ((hi : Int) < (n : Int)) = false := decide_eq_false (by omega)
        have HR := Lib.hid (show metB (keysP ps) x hi = false by unfold metB; rw [decide_eq_false (by rw [keysP_len, HL.out]; omega), Bool.false_and])
        go_wp2
        go_ret2
        exact ⟨by first | (rw [HR.out]; done) | (rw [HR.out]; rfl), HB.out⟩
set_option maxRecDepth 100000 in
theorem efind_any (A : Option Addr) (n c : Nat) (ps : List Pr) (x : ByteArray) (w : World) (h : RdX prC 4 w A n ps) (hn : n ≤ 1000000) (hr : Rise (keysP ps)) :
    Calls Try.prog 102 #[.slice A n c, .string x] w fun e w' => e = .returned (.tuple #[.int .i64 (lesP ps x : Int), .bool (inP ps x)]) ∧ Below w.heap.size w w' := by
  have HF := Lib.hid (bsf_any A n c ps x (lesP ps x) w h hn (cut_of (keysP ps) x hr))
  have HI := Lib.hid (show metB (keysP ps) x (lesP ps x) = inP ps x from in_met (x := x) hr)
  rw [HI.out] at HF
  generalize lesP ps x = K at HF ⊢
  generalize inP ps x = m at HF ⊢
  clear h HI
  go_enter Try.func102, Try.ntmps102
  go_wp2_with fail
  refine HF.out.mono ?_
  rintro e w1 ⟨rfl, hb⟩
  have HB := Lib.hid hb
  clear hb
  go_wp2_with fail
  go_ret2
  exact ⟨rfl, HB.out⟩
end Go.Proofs.Ytdjjabjegmbmaaa

namespace Go.Proofs.Ytdjjabjegmbmaaa
open Go.RowKit Vi

theorem info_prB : (Try.prog.info? 140).map (fun i => (i.zero, i.size, i.bytes)) = some (some (.agg #[.string ⟨#[]⟩, .int .i64 0, .int .i64 0, .string ⟨#[]⟩]), 4, 48) := by kernel_rfl
def RetP0 (w : World) (L : List Pr) (e : Ending) (w' : World) : Prop := ∃ v, e = .returned v ∧ OwX prC 4 140 w' w.heap.size v L ∧ Below w.heap.size w w'
def RetP (w : World) (L : List Pr) (z : Int) (e : Ending) (w' : World) : Prop := ∃ v, e = .returned (.tuple #[v, .int .i64 z]) ∧ OwX prC 4 140 w' w.heap.size v L ∧ Below w.heap.size w w'
set_option maxRecDepth 100000 in
set_option maxHeartbeats 1600000 in
theorem pgrow_any (n : Nat) (w : World) (hn : n ≤ 300000) :
    Calls Try.prog 153 #[.slice none 0 0, .int .i64 (n : Int)] w (RetP0 w []) := by
  rcases Nat.eq_zero_or_pos n with rfl | hp
  · go_enter Try.func153, Try.ntmps153
    go_wp2
    go_ret
    exact ⟨_, rfl, OwX.nil w, Below.refl _ _⟩
  · obtain ⟨i0, hi, hz0, hz1, hz2⟩ := info_parts info_prB
    have hrz := fun ty => Lib.run_append_nil_zeros (P := Try.prog) w 46 3 ty 140 i0 (.agg #[.string ⟨#[]⟩, .int .i64 0, .int .i64 0, .string ⟨#[]⟩]) .i64 .i64 Try.underlying46 Try.underlying3 hi hz0 n hp (by omega) (by omega) (by rw [hz2]; omega)
    have hGn : n ≤ grownCap w n 0 140 := grownCap_ge w _ _ _
    have hGm : grownCap w n 0 140 ≤ maxLen := grownCap_le_maxLen w n 0 140 (by unfold maxLen; omega)
    obtain ⟨G, hG⟩ : ∃ G, G = grownCap w n 0 140 := ⟨_, rfl⟩
    rw [← hG] at hGn hGm
    simp only [← hG] at hrz
    clear hG
    have hGm2 := hGm
    unfold maxLen at hGm2
    have h4 : (n : Int) > 0 := by omega
    have h1 : ¬ ((n : Int) < 0) := by omega
    have HRZ := Lib.hid hrz
    clear hrz hi hz0 hz1 hz2
    go_enter Try.func153, Try.ntmps153
    go_wp2_with (at_builtin; refine Lib.wpList_append_run _ rfl _ _ _ _ rfl _ _ rfl rfl _ _ (HRZ.out _) ?_)
    all_goals go_ret
    all_goals exact ⟨_, rfl, OwX.zero (heap_alloc_new w.drew _) (Nat.le_refl _) hGm (by simp [size_zeroCells]; omega), ((Below.refl _ w).drew).alloc (Nat.le_refl _) _⟩
theorem newX_one (w : World) (o : Obj) : (w.alloc o).drew.heap[w.heap.size]? = some o := (MapKept.heap_alloc w o).1
theorem belX_one (w : World) (o : Obj) : Below w.heap.size w (w.alloc o).drew := ((Below.refl _ w).alloc (Nat.le_refl _) o).drew
theorem sizX_one (w : World) (o : Obj) : w.heap.size < (w.alloc o).drew.heap.size := by show _ < (w.heap.push o).size; simp
/-- a slice of properties that came in -/
structure SlP where
  a : Option Addr
  n : Nat
  c : Nat
  l : List Pr
def slC (x : SlP) : List Value := [.slice x.a x.n x.c]
def totP (xs : List SlP) : Nat := (xs.map (·.n)).sum
theorem totP_take (xs : List SlP) (k : Nat) (h : k < xs.length) : totP (xs.take (k + 1)) = totP (xs.take k) + xs[k].n := by
  rw [List.take_succ_eq_append_getElem h]; unfold totP; simp only [List.map_append, List.sum_append, List.map_cons, List.map_nil, List.sum_cons, List.sum_nil]; omega
theorem totP_le (xs : List SlP) (k : Nat) : totP (xs.take k) ≤ totP xs := by
  have : totP xs = totP (xs.take k) + totP (xs.drop k) := by
    unfold totP
    rw [← List.sum_append, ← List.map_append, List.take_append_drop]
  omega
theorem cat_take (xs : List SlP) (k : Nat) (h : k < xs.length) : (xs.take (k + 1)).flatMap (·.l) = (xs.take k).flatMap (·.l) ++ xs[k].l := by
  rw [List.take_succ_eq_append_getElem h, List.flatMap_append]; simp only [List.flatMap_cons, List.flatMap_nil, List.append_nil]
theorem cat_len (w : World) (xs : List SlP) (h : ∀ x ∈ xs, RdX prC 4 w x.a x.n x.l) : (xs.flatMap (·.l)).length = totP xs := by
  induction xs with
  | nil => rfl
  | cons x r ih =>
    rw [List.flatMap_cons, List.length_append, ih (fun y hy => h y (List.mem_cons_of_mem _ hy)), (h x (by simp)).1]
    unfold totP; simp
set_option maxRecDepth 100000 in
set_option maxHeartbeats 2000000 in
theorem pconcat_any (b off m cp : Nat) (xs : List SlP) (w : World) (h : RdX slC 1 w (some ⟨b, off, none⟩) m xs) (hx : ∀ x ∈ xs, RdX prC 4 w x.a x.n x.l) (hm : m ≤ 100) (ht : totP xs ≤ 100000) :
    Calls Try.prog 103 #[.slice (some ⟨b, off, none⟩) m cp] w (RetP0 w (xs.flatMap (·.l))) := by
  have H := Lib.hid h
  have HX := Lib.hid hx
  have L := Lib.hid h.1
  have HTT := Lib.hid (fun k => totP_le xs k)
  clear h hx
  go_enter Try.func103, Try.ntmps103
  go_wp2
  go_loop [3, 5, 11] (fun v _ i => ∃ (k t : Nat), i = .int .i64 (k : Int) ∧ v = .int .i64 (t : Int) ∧ k ≤ m ∧ t = totP (xs.take k)) (fun _ _ i => m - (intOf i).toNat)
  case atStart => exact ⟨0, 0, rfl, rfl, Nat.zero_le _, rfl⟩
  case round =>
    obtain ⟨k, t, rfl, rfl, hk, htk⟩ := hrel
    have HTK := Lib.hid htk
    have ht1 : t ≤ 100000 := by have := HTT.out k; rw [htk]; omega
    clear htk
    by_cases hlt : k < m
    · have hd1 : decide ((k : Int) < (m : Int)) = true := decide_eq_true (by omega)
      have hl : k < xs.length := by rw [L.out]; exact hlt
      have HA := Lib.hid (totP_take xs k hl)
      have hle := HTT.out (k + 1)
      rw [HA.out, ← HTK.out] at hle
      obtain ⟨x, hx⟩ : ∃ x, xs[k] = x := ⟨_, rfl⟩
      have HXK := Lib.hid (show xs[k]? = some x by rw [List.getElem?_eq_getElem hl, hx])
      rw [hx] at HA hle
      obtain ⟨xa, xn, xc, xl⟩ := x
      have a0 : w.cell? ⟨b, off + k, none⟩ = some (.slice xa xn xc) := by have h := H.out.cellAt HXK.out hlt 0 _ rfl; rw [Nat.add_zero, Nat.mul_one] at h; exact h
      have hxn : t + xn ≤ 100000 := Nat.le_trans hle ht
      have HA : Hid (totP (xs.take (k + 1)) = totP (xs.take k) + xn) := HA
      have HR := Lib.hid (show t + xn = totP (xs.take (k + 1)) by rw [HA.out, HTK.out])
      have hi0 : (0 : Int) ≤ (k : Int) := by omega
      have hneg : decide ((t : Int) + (xn : Int) < 0) = false := decide_eq_false (by omega)
      clear hx hle
      go_wp2_with fail
      go_round
      case rel => exact ⟨k + 1, t + xn, by go_num, by go_num, by omega, HR.out⟩
      case measure => simp [intOf] <;> omega
    · have hd1 : decide ((k : Int) < (m : Int)) = false := decide_eq_false (by omega)
      go_wp2_with fail
      refine (pgrow_any t w (by omega)).mono ?_
      rintro e w1 ⟨v1, rfl, ho1, hb1⟩
      have HO1 := Lib.hid ho1
      have HB1 := Lib.hid hb1
      have hv1 := ho1.one
      clear ho1 hb1 hd1
      go_wp2_with fail
      go_loopw [6, 8, 27] (fun vv _ i wr => ∃ (j : Nat) (v : Value), v = vv ∧ i = .int .i64 (j : Int) ∧ j ≤ m ∧ OwX prC 4 140 wr w.heap.size v ((xs.take j).flatMap (·.l)) ∧ Below w.heap.size w wr) (fun _ _ i _ => m - (intOf i).toNat)
      case atStart => exact ⟨0, _, rfl, rfl, Nat.zero_le _, HO1.out, HB1.out⟩
      case round =>
        obtain ⟨j, v, rfl, rfl, hj, ho, hb⟩ := hrel
        have HO := Lib.hid ho
        have HB := Lib.hid hb
        have hv := ho.one
        clear ho hb
        by_cases hlt2 : j < m
        · have hd1 : decide ((j : Int) < (m : Int)) = true := decide_eq_true (by omega)
          have hl : j < xs.length := by rw [L.out]; exact hlt2
          have HCT := Lib.hid (cat_take xs j hl)
          have HRJ := Lib.hid (HX.out _ (List.getElem_mem hl))
          have HTJ := Lib.hid (totP_take xs j hl)
          have hle := HTT.out (j + 1)
          rw [HTJ.out] at hle
          have HLJ := Lib.hid (cat_len w (xs.take j) (fun y hy => HX.out y (List.mem_of_mem_take hy)))
          obtain ⟨x, hx⟩ : ∃ x, xs[j] = x := ⟨_, rfl⟩
          have HXK := Lib.hid (show xs[j]? = some x by rw [List.getElem?_eq_getElem hl, hx])
          rw [hx] at HCT HRJ hle
          obtain ⟨xa, xn, xc, xl⟩ := x
          have a0 : wr.cell? ⟨b, off + j, none⟩ = some (.slice xa xn xc) := by have h := (H.out.below HB.out).cellAt HXK.out hlt2 0 _ rfl; rw [Nat.add_zero, Nat.mul_one] at h; exact h
          have HRJ : Hid (RdX prC 4 w xa xn xl) := HRJ
          have HCT : Hid ((xs.take (j + 1)).flatMap (·.l) = (xs.take j).flatMap (·.l) ++ xl) := HCT
          have hle : totP (xs.take j) + xn ≤ totP xs := hle
          have hi0 : (0 : Int) ≤ (j : Int) := by omega
          clear hx
          go_wp2_with (at_builtin; refine wpList_appXs rfl _ _ 46 140 _ 48 rfl Try.underlying46 info_prB rfl (by omega) (by omega) prC_len prC_one w.heap.size w HB.out HB.out.size v _ rfl HO.out xa xn xc xl rfl (HRJ.out.below HB.out) (by rw [HLJ.out]; omega) ?_)
          intro v2 w2 HO2 HB2 HZ2 HG2
          have hv2 := HO2.out.one
          go_wp2_with fail
          go_roundw
          case rel => exact ⟨j + 1, v2, rfl, by go_num, by omega, by rw [HCT.out]; exact HO2.out, HB2.out⟩
          case measure => simp [intOf] <;> omega
        · have hd1 : decide ((j : Int) < (m : Int)) = false := decide_eq_false (by omega)
          have HE := Lib.hid (show xs.take j = xs from List.take_of_length_le (by rw [L.out]; omega))
          rw [HE.out] at HO
          go_wp2_with fail
          go_ret
          exact ⟨v, rfl, HO.out, HB.out⟩
theorem elem_pp : Try.prog.elem 46 = 140 := by kernel_rfl
theorem size_of_pr (W : World) : (sizeOf 140).run Try.prog W = .ok 4 W := by
  obtain ⟨i0, hi, _, hz1, _⟩ := info_parts info_prB
  simp [sizeOf, typeInfo, hi, hz1]
theorem und_pp : Try.prog.underlying 46 = some (.slice (Try.prog.elem 46)) := by rw [elem_pp]; exact Try.underlying46
theorem pslice_to (a : Option Addr) (n c k : Nat) (hk : k ≤ c) (W : World) : (Instr.slice 46 (.slice a n c) none (some (.int .i64 (k : Int))) none).run Try.prog W = .ok (.slice a k c) W := by
  rw [run_slice_h W _ a n c und_pp .i64 k (by omega) (by omega), elem_pp, size_of_pr]
  simp [Result.andThen, sliced, Addr.add]
theorem pslice_from (a : Option Addr) (n c k : Nat) (z : Int) (hz : z = k) (hk : k ≤ n) (W : World) : (Instr.slice 46 (.slice a n c) (some (.int .i64 z)) none none).run Try.prog W = .ok (.slice (cutX 4 a c k) (n - k) (c - k)) W := by
  subst hz
  rw [run_slice_l W _ a n c und_pp .i64 k (by omega) (by omega), elem_pp, size_of_pr]
  simp [Result.andThen, sliced, cutX]
def getV (ps : List Pr) (x : ByteArray) : Int × Int × ByteArray := if inP ps x = true then (ps.getD (lesP ps x) (⟨#[]⟩, 0, 0, ⟨#[]⟩)).2 else (0, 0, ⟨#[]⟩)
def setE (ps : List Pr) (p : Pr) : Int := if okP p = false then 2 else if inP ps p.1 = false ∧ 8 ≤ ps.length then 5 else 0
def setV (ps : List Pr) (p : Pr) : List Pr := if setE ps p = 0 then setL ps p else []
def usE (ps : List Pr) (x : ByteArray) : Int := if inP ps x = true then 0 else 9
def usV (ps : List Pr) (x : ByteArray) : List Pr := if inP ps x = true then ps.take (lesP ps x) ++ ps.drop (lesP ps x + 1) else []
theorem getV_at {ps : List Pr} {x s t : ByteArray} {a d : Int} (h : inP ps x = true) (hk : lesP ps x < ps.length) (he : ps[lesP ps x] = (s, a, d, t)) : getV ps x = (a, d, t) := by
  unfold getV
  rw [if_pos h, List.getD_eq_getElem?_getD, List.getElem?_eq_getElem hk, he]; rfl
set_option maxRecDepth 100000 in
set_option maxHeartbeats 1000000 in
theorem eget_any (A : Option Addr) (n c : Nat) (ps : List Pr) (x : ByteArray) (w : World) (h : RdX prC 4 w A n ps) (hn : n ≤ 1000000) (hr : Rise (keysP ps)) :
    Calls Try.prog 47 #[.slice A n c, .string x] w fun e w' => e = .returned (.tuple #[.agg (vvv (getV ps x)), .bool (inP ps x)]) ∧ Below w.heap.size w w' := by
  have H := Lib.hid h
  have HF := Lib.hid (fun (W : World) (q : RdX prC 4 W A n ps) => efind_any A n c ps x W q hn hr)
  have HL := Lib.hid (in_at (x := x) hr)
  have L := Lib.hid h.1
  clear h
  cases hin : inP ps x with
  | false =>
    have HV := Lib.hid (show vvv (getV ps x) = #[.int .i64 0, .int .i64 0, .string ⟨#[]⟩] by unfold getV; rw [if_neg (by rw [hin]; simp)]; rfl)
    rw [hin] at HF
    clear hin HL
    have HB1 := Lib.hid (Below.refl w.heap.size w)
    go_enter Try.func47, Try.ntmps47
    have HF2 := Lib.hid (blk_new w (.cells #[.int .i64 0, .int .i64 0, .string ⟨#[]⟩] 78 (0, 0)))
    have HB3 := Lib.hid (HB1.out.alloc HB1.out.size (.cells #[.int .i64 0, .int .i64 0, .string ⟨#[]⟩] 78 (0, 0)))
    clear HB1
    go_wp2_with fail
    refine (HF.out (w.alloc (.cells #[.int .i64 0, .int .i64 0, .string ⟨#[]⟩] 78 (0, 0))) (H.out.below HB3.out)).mono ?_
    rintro e w1 ⟨rfl, hb1⟩
    have HF4 := Lib.hid (blk_below HF2.out hb1)
    have HB5 := Lib.hid (HB3.out.trans (hb1.mono HB3.out.size))
    clear hb1 HB3 HF2
    have hk6 : w.heap.size < w1.heap.size := lt_of_block HF4.out
    go_wp2_with (first
      | refine wpList_store_rowY rfl 78 (.tmp 4) (.tmp 16) rfl (w.heap.size) #[.int .i64 0, .int .i64 0, .string ⟨#[]⟩] rfl rfl 78 _ HF4.out (info_val _ _ _) rfl (one_val _ _ _) w.heap.size w HB5.out (by omega) ?_)
    intro W2 hbk hoth hbel _
    have HF7 := Lib.hid hbk.out
    have HB8 := Lib.hid hbel.out
    clear hbk hoth hbel HB5  HF4
    go_wp2_with fail
    refine bodyPost_ret (results_ctY rfl _ _ (w.heap.size) #[.int .i64 0, .int .i64 0, .string ⟨#[]⟩] rfl (run_loadVar_row _ (w.heap.size) 78 78 _ (0, 0) _ HF7.out Try.underlying78 rfl (info_val _ _ _))) rfl ?_
    exact ⟨by first | (rw [HV.out]; done) | (rw [HV.out]; rfl), HB8.out⟩
  | true =>
    obtain ⟨hk, he⟩ := HL.out hin
    obtain ⟨K, hK⟩ : ∃ K, K = lesP ps x := ⟨_, rfl⟩
    obtain ⟨y, hy⟩ : ∃ y, ps[lesP ps x] = y := ⟨_, rfl⟩
    have HX := Lib.hid (show ps[K]? = some y by rw [hK, List.getElem?_eq_getElem hk, hy])
    obtain ⟨s, a, d, t⟩ := y
    have HV := Lib.hid (show vvv (getV ps x) = #[.int .i64 a, .int .i64 d, .string t] by rw [getV_at hin hk hy]; rfl)
    have hkn : K < n := by rw [hK, ← L.out]; exact hk
    have hi0 : (0 : Int) ≤ (K : Int) := by omega
    have hi1 : (K : Int) < (n : Int) := by omega
    rw [hin, ← hK] at HF
    obtain ⟨b, off, _, rfl, _, _⟩ := H.out.at hkn
    clear hin HL he hy hk hK
    have HB1 := Lib.hid (Below.refl w.heap.size w)
    go_enter Try.func47, Try.ntmps47
    have HF2 := Lib.hid (blk_new w (.cells #[.int .i64 0, .int .i64 0, .string ⟨#[]⟩] 78 (0, 0)))
    have HB3 := Lib.hid (HB1.out.alloc HB1.out.size (.cells #[.int .i64 0, .int .i64 0, .string ⟨#[]⟩] 78 (0, 0)))
    clear HB1
    go_wp2_with fail
    refine (HF.out (w.alloc (.cells #[.int .i64 0, .int .i64 0, .string ⟨#[]⟩] 78 (0, 0))) (H.out.below HB3.out)).mono ?_
    rintro e w1 ⟨rfl, hb1⟩
    have HF4 := Lib.hid (blk_below HF2.out hb1)
    have HB5 := Lib.hid (HB3.out.trans (hb1.mono HB3.out.size))
    clear hb1 HB3 HF2
    have hk6 : w.heap.size < w1.heap.size := lt_of_block HF4.out
    have hc7 : w1.cell? ⟨b, off + K * 4 + 1, none⟩ = some (.int .i64 a) := (H.out.below HB5.out).cellAt HX.out hkn 1 _ rfl
    have hc8 : w1.cell? ⟨b, off + K * 4 + 2, none⟩ = some (.int .i64 d) := (H.out.below HB5.out).cellAt HX.out hkn 2 _ rfl
    have hc9 : w1.cell? ⟨b, off + K * 4 + 3, none⟩ = some (.string t) := (H.out.below HB5.out).cellAt HX.out hkn 3 _ rfl
    go_wp2_with (first
      | refine wpList_store_rowY rfl 78 (.tmp 4) (.tmp 21) rfl (w.heap.size) #[.int .i64 a, .int .i64 d, .string t] rfl rfl 78 _ HF4.out (info_val _ _ _) rfl (one_val _ _ _) w.heap.size w HB5.out (by omega) ?_)
    intro W2 hbk hoth hbel _
    clear hc7 hc8 hc9
    have HF10 := Lib.hid hbk.out
    have HB11 := Lib.hid hbel.out
    clear hbk hoth hbel HB5  HF4
    go_wp2_with fail
    refine bodyPost_ret (results_ctY rfl _ _ (w.heap.size) #[.int .i64 a, .int .i64 d, .string t] rfl (run_loadVar_row _ (w.heap.size) 78 78 _ (0, 0) _ HF10.out Try.underlying78 rfl (info_val _ _ _))) rfl ?_
    exact ⟨by first | (rw [HV.out]; done) | (rw [HV.out]; rfl), HB11.out⟩
set_option maxRecDepth 100000 in
set_option maxHeartbeats 4000000 in
theorem eunset_any (A : Option Addr) (n c : Nat) (ps : List Pr) (x : ByteArray) (w : World) (h : RdX prC 4 w A n ps) (hn : n ≤ 8) (hc : n ≤ c) (hr : Rise (keysP ps)) :
    Calls Try.prog 45 #[.slice A n c, .string x] w (RetP w (usV ps x) (usE ps x)) := by
  have H := Lib.hid h
  have HF := Lib.hid (fun (W : World) (q : RdX prC 4 W A n ps) => efind_any A n c ps x W q (by omega) hr)
  have HL := Lib.hid (in_at (x := x) hr)
  have L := Lib.hid h.1
  clear h
  cases hin : inP ps x with
  | false =>
    have HV := Lib.hid (show usE ps x = 9 ∧ usV ps x = [] by unfold usE usV; rw [if_neg (by rw [hin]; simp), if_neg (by rw [hin]; simp)]; exact ⟨rfl, rfl⟩)
    rw [hin] at HF
    clear hin HL
    have HB1 := Lib.hid (Below.refl w.heap.size w)
    go_enter Try.func45, Try.ntmps45
    go_wp2_with fail
    refine (HF.out w (H.out.below HB1.out)).mono ?_
    rintro e w1 ⟨rfl, hb1⟩
    have HB2 := Lib.hid (HB1.out.trans (hb1.mono HB1.out.size))
    clear hb1 HB1 
    go_wp2_with fail
    go_ret2
    exact ⟨_, by first | (rw [HV.out.1]; done) | (rw [HV.out.1]; rfl), by rw [HV.out.2]; exact OwX.nil _, HB2.out⟩
  | true =>
    obtain ⟨hk, he⟩ := HL.out hin
    obtain ⟨K, hK⟩ : ∃ K, K = lesP ps x := ⟨_, rfl⟩
    have HV := Lib.hid (show usE ps x = 0 ∧ usV ps x = ps.take K ++ ps.drop (K + 1) by unfold usE usV; rw [if_pos hin, if_pos hin, hK]; exact ⟨rfl, rfl⟩)
    have hkn : K < n := by rw [hK, ← L.out]; exact hk
    have hi0 : (0 : Int) ≤ (K : Int) := by omega
    have hi1 : (K : Int) < (n : Int) := by omega
    rw [hin, ← hK] at HF
    clear hin HL he hk hK
    have HB1 := Lib.hid (Below.refl w.heap.size w)
    go_enter Try.func45, Try.ntmps45
    go_wp2_with fail
    refine (HF.out w (H.out.below HB1.out)).mono ?_
    rintro e w1 ⟨rfl, hb1⟩
    have HB2 := Lib.hid (HB1.out.trans (hb1.mono HB1.out.size))
    clear hb1 HB1 
    have s1 := fun W => pslice_to A n c K (by omega) W
    have s2 := fun W => pslice_from A n c (K + 1) ((K : Int) + 1) (by omega) (by omega) W
    have hw1 : IntKind.i64.wrap ((K : Int) + 1) = (K : Int) + 1 := IntWalk.i64_in _ (by omega)
    have HD1 := Lib.hid (H.out.take K (by omega))
    have HD2 := Lib.hid (H.out.drop (c := c) (K + 1) (by omega) hc)
    generalize cutX 4 A c (K + 1) = A2 at s2 HD2
    go_upto_region 4 with (fail)
    have HRL := Lib.hid (fun (W : World) (hB : Below w1.heap.size w1 W) => show ∀ y ∈ ([⟨A, K, c, ps.take K⟩, ⟨A2, n - (K + 1), c - (K + 1), ps.drop (K + 1)⟩] : List SlP), RdX prC 4 W y.a y.n y.l from fun y hy => by
      have HBN := HB2.out.trans (hB.mono HB2.out.size)
      rcases List.mem_cons.1 hy with e | hy
      · subst e; exact HD1.out.below HBN
      · have e : y = ⟨A2, n - (K + 1), c - (K + 1), ps.drop (K + 1)⟩ := by simpa using hy
        subst e; exact HD2.out.below HBN)
    go_region_with (go_at_call 103; refine (pconcat_any (w1.heap.size) 0 2 2 [⟨A, K, c, ps.take K⟩, ⟨A2, n - (K + 1), c - (K + 1), ps.drop (K + 1)⟩] _ (rd_blk (f := slC) (s := 1) (fun _ => rfl) [⟨A, K, c, ps.take K⟩, ⟨A2, n - (K + 1), c - (K + 1), ps.drop (K + 1)⟩] (newX_one _ _) rfl) (HRL.out _ (belX_one _ _)) (by omega) (by simp [totP]; omega)).mono ?_; rintro e w2 ⟨v2, rfl, ho2, hb2⟩)
    have HO2 := Lib.hid ho2
    have HBZ := Lib.hid (HB2.out.trans (((belX_one _ _).trans (hb2.mono (Nat.le_of_lt (sizX_one _ _)))).mono HB2.out.size))
    have hv2 := ho2.one
    clear ho2 hb2 s1 s2 hw1
    go_wp2_with fail
    go_ret2
    refine ⟨v2, by first | (rw [HV.out.1]; done) | (rw [HV.out.1]; rfl), ?_, HBZ.out⟩
    rw [HV.out.2]
    have k := HO2.out
    simp only [List.flatMap_cons, List.flatMap_nil, List.append_nil] at k
    exact k.mono (Nat.le_trans HB2.out.size (Nat.le_of_lt (sizX_one _ _)))
theorem setE_bad {ps : List Pr} {p : Pr} (h : okP p = false) : setE ps p = 2 ∧ setV ps p = [] := by
  have e : setE ps p = 2 := by unfold setE; rw [if_pos h]
  exact ⟨e, by unfold setV; rw [e]; rfl⟩
theorem setE_full {ps : List Pr} {p : Pr} (h : okP p = true) (h1 : inP ps p.1 = false) (h2 : 8 ≤ ps.length) : setE ps p = 5 ∧ setV ps p = [] := by
  have e : setE ps p = 5 := by unfold setE; rw [if_neg (by rw [h]; simp), if_pos ⟨h1, h2⟩]
  exact ⟨e, by unfold setV; rw [e]; rfl⟩
theorem setE_ok {ps : List Pr} {p : Pr} (h : okP p = true) (h1 : ¬ (inP ps p.1 = false ∧ 8 ≤ ps.length)) : setE ps p = 0 ∧ setV ps p = setL ps p := by
  have e : setE ps p = 0 := by unfold setE; rw [if_neg (by rw [h]; simp), if_neg h1]
  exact ⟨e, by unfold setV; rw [if_pos e]⟩
theorem newX_two (w : World) (o p : Obj) : ((w.alloc o).alloc p).drew.heap[w.heap.size]? = some o ∧ ((w.alloc o).alloc p).drew.heap[w.heap.size + 1]? = some p :=
  ⟨blk_alloc (blk_new w o) p, blk_newN (W := w.alloc o) (by simp)⟩
theorem belX_two (w : World) (o p : Obj) : Below w.heap.size w ((w.alloc o).alloc p).drew := (((Below.refl _ w).alloc (Nat.le_refl _) o).alloc (by simp) p).drew
theorem sizX_two (w : World) (o p : Obj) : w.heap.size ≤ ((w.alloc o).alloc p).drew.heap.size := (belX_two w o p).size
set_option maxRecDepth 100000 in
set_option maxHeartbeats 8000000 in
theorem eset_any (A : Option Addr) (n c : Nat) (ps : List Pr) (s : ByteArray) (a d : Int) (t : ByteArray) (w : World) (h : RdX prC 4 w A n ps) (hn : n ≤ 8) (hc : n ≤ c) (hr : Rise (keysP ps)) (hs : s.size ≤ maxLen) :
    Calls Try.prog 43 #[.slice A n c, .string s, .agg #[.int .i64 a, .int .i64 d, .string t]] w (RetP w (setV ps (s, a, d, t)) (setE ps (s, a, d, t))) := by
  have H := Lib.hid h
  have HF := Lib.hid (fun (W : World) (q : RdX prC 4 W A n ps) => efind_any A n c ps s W q (by omega) hr)
  have HST := Lib.hid (fun W : World => stand_any s a d t W hs)
  have HL := Lib.hid (in_at (x := s) hr)
  have L := Lib.hid h.1
  have HLE := Lib.hid (lesP_le ps s)
  have HSA := Lib.hid (setL_at (p := (s, a, d, t)) hr)
  clear h
  cases ho : okP (s, a, d, t) with
  | false =>
    have HV := Lib.hid (setE_bad (ps := ps) ho)
    rw [ho] at HST
    clear ho
    have HB1 := Lib.hid (Below.refl w.heap.size w)
    go_enter Try.func43, Try.ntmps43
    have HF2 := Lib.hid (blk_new w (.cells #[.int .i64 a, .int .i64 d, .string t] 78 (0, 0)))
    have HB3 := Lib.hid (HB1.out.alloc HB1.out.size (.cells #[.int .i64 a, .int .i64 d, .string t] 78 (0, 0)))
    clear HB1
    have HF4 := Lib.hid (blk_alloc HF2.out (.cells #[.string s, .int .i64 a, .int .i64 d, .string t] 140 (0, 0)))
    clear HF2
    have HF5 : Hid (((w.alloc (.cells #[.int .i64 a, .int .i64 d, .string t] 78 (0, 0))).alloc (.cells #[.string s, .int .i64 a, .int .i64 d, .string t] 140 (0, 0))).heap[w.heap.size + 1]? = some (.cells #[.string s, .int .i64 a, .int .i64 d, .string t] 140 (0, 0))) := Lib.hid (blk_newN (W := (w.alloc (.cells #[.int .i64 a, .int .i64 d, .string t] 78 (0, 0)))) (o := (.cells #[.string s, .int .i64 a, .int .i64 d, .string t] 140 (0, 0))) (by simp))
    have HB6 := Lib.hid (HB3.out.alloc (by have := HB3.out.size; simp at this ⊢ <;> omega) (.cells #[.string s, .int .i64 a, .int .i64 d, .string t] 140 (0, 0)))
    clear HB3
    have hc7 : ((w.alloc (.cells #[.int .i64 a, .int .i64 d, .string t] 78 (0, 0))).alloc (.cells #[.string s, .int .i64 a, .int .i64 d, .string t] 140 (0, 0))).cell? ⟨w.heap.size, 0, none⟩ = some (.int .i64 a) := by rw [cell_of_row _ _ _ _ _ _ HF4.out]; rfl
    have hc8 : ((w.alloc (.cells #[.int .i64 a, .int .i64 d, .string t] 78 (0, 0))).alloc (.cells #[.string s, .int .i64 a, .int .i64 d, .string t] 140 (0, 0))).cell? ⟨w.heap.size, 1, none⟩ = some (.int .i64 d) := by rw [cell_of_row _ _ _ _ _ _ HF4.out]; rfl
    have hc9 : ((w.alloc (.cells #[.int .i64 a, .int .i64 d, .string t] 78 (0, 0))).alloc (.cells #[.string s, .int .i64 a, .int .i64 d, .string t] 140 (0, 0))).cell? ⟨w.heap.size, 2, none⟩ = some (.string t) := by rw [cell_of_row _ _ _ _ _ _ HF4.out]; rfl
    have hc10 : ((w.alloc (.cells #[.int .i64 a, .int .i64 d, .string t] 78 (0, 0))).alloc (.cells #[.string s, .int .i64 a, .int .i64 d, .string t] 140 (0, 0))).cell? ⟨w.heap.size + 1, 0, none⟩ = some (.string s) := by rw [cell_of_row _ _ _ _ _ _ HF5.out]; rfl
    have hc11 : ((w.alloc (.cells #[.int .i64 a, .int .i64 d, .string t] 78 (0, 0))).alloc (.cells #[.string s, .int .i64 a, .int .i64 d, .string t] 140 (0, 0))).cell? ⟨w.heap.size + 1, 1, none⟩ = some (.int .i64 a) := by rw [cell_of_row _ _ _ _ _ _ HF5.out]; rfl
    have hc12 : ((w.alloc (.cells #[.int .i64 a, .int .i64 d, .string t] 78 (0, 0))).alloc (.cells #[.string s, .int .i64 a, .int .i64 d, .string t] 140 (0, 0))).cell? ⟨w.heap.size + 1, 2, none⟩ = some (.int .i64 d) := by rw [cell_of_row _ _ _ _ _ _ HF5.out]; rfl
    have hc13 : ((w.alloc (.cells #[.int .i64 a, .int .i64 d, .string t] 78 (0, 0))).alloc (.cells #[.string s, .int .i64 a, .int .i64 d, .string t] 140 (0, 0))).cell? ⟨w.heap.size + 1, 3, none⟩ = some (.string t) := by rw [cell_of_row _ _ _ _ _ _ HF5.out]; rfl
    go_wp2_with fail
    clear hc7 hc8 hc9 hc10 hc11 hc12 hc13
    refine (HST.out ((w.alloc (.cells #[.int .i64 a, .int .i64 d, .string t] 78 (0, 0))).alloc (.cells #[.string s, .int .i64 a, .int .i64 d, .string t] 140 (0, 0)))).mono ?_
    rintro e w1 ⟨rfl, hb1⟩
    have HF14 := Lib.hid (blk_below HF4.out hb1)
    have HF15 := Lib.hid (blk_below HF5.out hb1)
    have HB16 := Lib.hid (HB6.out.trans (hb1.mono HB6.out.size))
    clear hb1 HB6 HF4 HF5
    go_wp2_with fail
    go_ret2
    exact ⟨_, by first | (rw [HV.out.1]; done) | (rw [HV.out.1]; rfl), by rw [HV.out.2]; exact OwX.nil _, HB16.out⟩
  | true =>
    rw [ho] at HST
    have HOK := Lib.hid ho
    clear ho
    cases hin : inP ps s with
    | false =>
      rw [hin] at HF
      by_cases h8 : 8 ≤ n
      · have d8 : decide ((8 : Int) ≤ (n : Int)) = true := decide_eq_true (by omega)
        have HV := Lib.hid (setE_full (ps := ps) HOK.out hin (by rw [L.out]; exact h8))
        clear hin HL h8
        have HB1 := Lib.hid (Below.refl w.heap.size w)
        go_enter Try.func43, Try.ntmps43
        have HF2 := Lib.hid (blk_new w (.cells #[.int .i64 a, .int .i64 d, .string t] 78 (0, 0)))
        have HB3 := Lib.hid (HB1.out.alloc HB1.out.size (.cells #[.int .i64 a, .int .i64 d, .string t] 78 (0, 0)))
        clear HB1
        have HF4 := Lib.hid (blk_alloc HF2.out (.cells #[.string s, .int .i64 a, .int .i64 d, .string t] 140 (0, 0)))
        clear HF2
        have HF5 : Hid (((w.alloc (.cells #[.int .i64 a, .int .i64 d, .string t] 78 (0, 0))).alloc (.cells #[.string s, .int .i64 a, .int .i64 d, .string t] 140 (0, 0))).heap[w.heap.size + 1]? = some (.cells #[.string s, .int .i64 a, .int .i64 d, .string t] 140 (0, 0))) := Lib.hid (blk_newN (W := (w.alloc (.cells #[.int .i64 a, .int .i64 d, .string t] 78 (0, 0)))) (o := (.cells #[.string s, .int .i64 a, .int .i64 d, .string t] 140 (0, 0))) (by simp))
        have HB6 := Lib.hid (HB3.out.alloc (by have := HB3.out.size; simp at this ⊢ <;> omega) (.cells #[.string s, .int .i64 a, .int .i64 d, .string t] 140 (0, 0)))
        clear HB3
        have hc7 : ((w.alloc (.cells #[.int .i64 a, .int .i64 d, .string t] 78 (0, 0))).alloc (.cells #[.string s, .int .i64 a, .int .i64 d, .string t] 140 (0, 0))).cell? ⟨w.heap.size, 0, none⟩ = some (.int .i64 a) := by rw [cell_of_row _ _ _ _ _ _ HF4.out]; rfl
        have hc8 : ((w.alloc (.cells #[.int .i64 a, .int .i64 d, .string t] 78 (0, 0))).alloc (.cells #[.string s, .int .i64 a, .int .i64 d, .string t] 140 (0, 0))).cell? ⟨w.heap.size, 1, none⟩ = some (.int .i64 d) := by rw [cell_of_row _ _ _ _ _ _ HF4.out]; rfl
        have hc9 : ((w.alloc (.cells #[.int .i64 a, .int .i64 d, .string t] 78 (0, 0))).alloc (.cells #[.string s, .int .i64 a, .int .i64 d, .string t] 140 (0, 0))).cell? ⟨w.heap.size, 2, none⟩ = some (.string t) := by rw [cell_of_row _ _ _ _ _ _ HF4.out]; rfl
        have hc10 : ((w.alloc (.cells #[.int .i64 a, .int .i64 d, .string t] 78 (0, 0))).alloc (.cells #[.string s, .int .i64 a, .int .i64 d, .string t] 140 (0, 0))).cell? ⟨w.heap.size + 1, 0, none⟩ = some (.string s) := by rw [cell_of_row _ _ _ _ _ _ HF5.out]; rfl
        have hc11 : ((w.alloc (.cells #[.int .i64 a, .int .i64 d, .string t] 78 (0, 0))).alloc (.cells #[.string s, .int .i64 a, .int .i64 d, .string t] 140 (0, 0))).cell? ⟨w.heap.size + 1, 1, none⟩ = some (.int .i64 a) := by rw [cell_of_row _ _ _ _ _ _ HF5.out]; rfl
        have hc12 : ((w.alloc (.cells #[.int .i64 a, .int .i64 d, .string t] 78 (0, 0))).alloc (.cells #[.string s, .int .i64 a, .int .i64 d, .string t] 140 (0, 0))).cell? ⟨w.heap.size + 1, 2, none⟩ = some (.int .i64 d) := by rw [cell_of_row _ _ _ _ _ _ HF5.out]; rfl
        have hc13 : ((w.alloc (.cells #[.int .i64 a, .int .i64 d, .string t] 78 (0, 0))).alloc (.cells #[.string s, .int .i64 a, .int .i64 d, .string t] 140 (0, 0))).cell? ⟨w.heap.size + 1, 3, none⟩ = some (.string t) := by rw [cell_of_row _ _ _ _ _ _ HF5.out]; rfl
        go_wp2_with fail
        clear hc7 hc8 hc9 hc10 hc11 hc12 hc13
        refine (HST.out ((w.alloc (.cells #[.int .i64 a, .int .i64 d, .string t] 78 (0, 0))).alloc (.cells #[.string s, .int .i64 a, .int .i64 d, .string t] 140 (0, 0)))).mono ?_
        rintro e w1 ⟨rfl, hb1⟩
        have HF14 := Lib.hid (blk_below HF4.out hb1)
        have HF15 := Lib.hid (blk_below HF5.out hb1)
        have HB16 := Lib.hid (HB6.out.trans (hb1.mono HB6.out.size))
        clear hb1 HB6 HF4 HF5
        go_wp2_with fail
        refine (HF.out w1 (H.out.below HB16.out)).mono ?_
        rintro e w2 ⟨rfl, hb2⟩
        have HF17 := Lib.hid (blk_below HF14.out hb2)
        have HF18 := Lib.hid (blk_below HF15.out hb2)
        have HB19 := Lib.hid (HB16.out.trans (hb2.mono HB16.out.size))
        clear hb2 HB16 HF14 HF15
        go_wp2_with fail
        go_ret2
        exact ⟨_, by first | (rw [HV.out.1]; done) | (rw [HV.out.1]; rfl), by rw [HV.out.2]; exact OwX.nil _, HB19.out⟩
      · have d8 : decide ((8 : Int) ≤ (n : Int)) = false := decide_eq_false (by omega)
        have HV := Lib.hid (setE_ok (ps := ps) HOK.out (show ¬ (inP ps (s, a, d, t).1 = false ∧ 8 ≤ ps.length) from fun q => h8 (by rw [← L.out]; exact q.2)))
        obtain ⟨K, hK⟩ : ∃ K, K = lesP ps s := ⟨_, rfl⟩
        have hkn : K ≤ n := by rw [hK, ← L.out]; exact HLE.out
        have HSE := Lib.hid (show setL ps (s, a, d, t) = (ps.take K ++ [(s, a, d, t)]) ++ ps.drop K by
          have q := HSA.out
          rw [show (if inP ps (s, a, d, t).1 = true then lesP ps (s, a, d, t).1 + 1 else lesP ps (s, a, d, t).1) = lesP ps s from if_neg (by rw [show inP ps (s, a, d, t).1 = false from hin]; simp)] at q
          rw [hK]; exact q)
        have hi0 : (0 : Int) ≤ (K : Int) := by omega
        have hi1 : (K : Int) ≤ (n : Int) := by omega
        rw [← hK] at HF
        clear hin HL h8 hK
        have HB1 := Lib.hid (Below.refl w.heap.size w)
        go_enter Try.func43, Try.ntmps43
        have HF2 := Lib.hid (blk_new w (.cells #[.int .i64 a, .int .i64 d, .string t] 78 (0, 0)))
        have HB3 := Lib.hid (HB1.out.alloc HB1.out.size (.cells #[.int .i64 a, .int .i64 d, .string t] 78 (0, 0)))
        clear HB1
        have HF4 := Lib.hid (blk_alloc HF2.out (.cells #[.string s, .int .i64 a, .int .i64 d, .string t] 140 (0, 0)))
        clear HF2
        have HF5 : Hid (((w.alloc (.cells #[.int .i64 a, .int .i64 d, .string t] 78 (0, 0))).alloc (.cells #[.string s, .int .i64 a, .int .i64 d, .string t] 140 (0, 0))).heap[w.heap.size + 1]? = some (.cells #[.string s, .int .i64 a, .int .i64 d, .string t] 140 (0, 0))) := Lib.hid (blk_newN (W := (w.alloc (.cells #[.int .i64 a, .int .i64 d, .string t] 78 (0, 0)))) (o := (.cells #[.string s, .int .i64 a, .int .i64 d, .string t] 140 (0, 0))) (by simp))
        have HB6 := Lib.hid (HB3.out.alloc (by have := HB3.out.size; simp at this ⊢ <;> omega) (.cells #[.string s, .int .i64 a, .int .i64 d, .string t] 140 (0, 0)))
        clear HB3
        have hc7 : ((w.alloc (.cells #[.int .i64 a, .int .i64 d, .string t] 78 (0, 0))).alloc (.cells #[.string s, .int .i64 a, .int .i64 d, .string t] 140 (0, 0))).cell? ⟨w.heap.size, 0, none⟩ = some (.int .i64 a) := by rw [cell_of_row _ _ _ _ _ _ HF4.out]; rfl
        have hc8 : ((w.alloc (.cells #[.int .i64 a, .int .i64 d, .string t] 78 (0, 0))).alloc (.cells #[.string s, .int .i64 a, .int .i64 d, .string t] 140 (0, 0))).cell? ⟨w.heap.size, 1, none⟩ = some (.int .i64 d) := by rw [cell_of_row _ _ _ _ _ _ HF4.out]; rfl
        have hc9 : ((w.alloc (.cells #[.int .i64 a, .int .i64 d, .string t] 78 (0, 0))).alloc (.cells #[.string s, .int .i64 a, .int .i64 d, .string t] 140 (0, 0))).cell? ⟨w.heap.size, 2, none⟩ = some (.string t) := by rw [cell_of_row _ _ _ _ _ _ HF4.out]; rfl
        have hc10 : ((w.alloc (.cells #[.int .i64 a, .int .i64 d, .string t] 78 (0, 0))).alloc (.cells #[.string s, .int .i64 a, .int .i64 d, .string t] 140 (0, 0))).cell? ⟨w.heap.size + 1, 0, none⟩ = some (.string s) := by rw [cell_of_row _ _ _ _ _ _ HF5.out]; rfl
        have hc11 : ((w.alloc (.cells #[.int .i64 a, .int .i64 d, .string t] 78 (0, 0))).alloc (.cells #[.string s, .int .i64 a, .int .i64 d, .string t] 140 (0, 0))).cell? ⟨w.heap.size + 1, 1, none⟩ = some (.int .i64 a) := by rw [cell_of_row _ _ _ _ _ _ HF5.out]; rfl
        have hc12 : ((w.alloc (.cells #[.int .i64 a, .int .i64 d, .string t] 78 (0, 0))).alloc (.cells #[.string s, .int .i64 a, .int .i64 d, .string t] 140 (0, 0))).cell? ⟨w.heap.size + 1, 2, none⟩ = some (.int .i64 d) := by rw [cell_of_row _ _ _ _ _ _ HF5.out]; rfl
        have hc13 : ((w.alloc (.cells #[.int .i64 a, .int .i64 d, .string t] 78 (0, 0))).alloc (.cells #[.string s, .int .i64 a, .int .i64 d, .string t] 140 (0, 0))).cell? ⟨w.heap.size + 1, 3, none⟩ = some (.string t) := by rw [cell_of_row _ _ _ _ _ _ HF5.out]; rfl
        go_wp2_with fail
        clear hc7 hc8 hc9 hc10 hc11 hc12 hc13
        refine (HST.out ((w.alloc (.cells #[.int .i64 a, .int .i64 d, .string t] 78 (0, 0))).alloc (.cells #[.string s, .int .i64 a, .int .i64 d, .string t] 140 (0, 0)))).mono ?_
        rintro e w1 ⟨rfl, hb1⟩
        have HF14 := Lib.hid (blk_below HF4.out hb1)
        have HF15 := Lib.hid (blk_below HF5.out hb1)
        have HB16 := Lib.hid (HB6.out.trans (hb1.mono HB6.out.size))
        clear hb1 HB6 HF4 HF5
        go_wp2_with fail
        refine (HF.out w1 (H.out.below HB16.out)).mono ?_
        rintro e w2 ⟨rfl, hb2⟩
        have HF17 := Lib.hid (blk_below HF14.out hb2)
        have HF18 := Lib.hid (blk_below HF15.out hb2)
        have HB19 := Lib.hid (HB16.out.trans (hb2.mono HB16.out.size))
        clear hb2 HB16 HF14 HF15
        have hk20 : w.heap.size < w2.heap.size := lt_of_block HF17.out
        have hk21 : w.heap.size + 1 < w2.heap.size := lt_of_block HF18.out
        have hc22 : w2.cell? ⟨w.heap.size + 1, 0, none⟩ = some (.string s) := by rw [cell_of_row _ _ _ _ _ _ HF18.out]; rfl
        have hc23 : w2.cell? ⟨w.heap.size + 1, 1, none⟩ = some (.int .i64 a) := by rw [cell_of_row _ _ _ _ _ _ HF18.out]; rfl
        have hc24 : w2.cell? ⟨w.heap.size + 1, 2, none⟩ = some (.int .i64 d) := by rw [cell_of_row _ _ _ _ _ _ HF18.out]; rfl
        have hc25 : w2.cell? ⟨w.heap.size + 1, 3, none⟩ = some (.string t) := by rw [cell_of_row _ _ _ _ _ _ HF18.out]; rfl
        have s1 := fun W => pslice_to A n c K (by omega) W
        have s2 := fun W => pslice_from A n c K (K : Int) (by omega) (by omega) W
        have hw1 : IntKind.i64.wrap ((K : Int) + 1) = (K : Int) + 1 := IntWalk.i64_in _ (by omega)
        have HD1 := Lib.hid (H.out.take K (by omega))
        have HD2 := Lib.hid (H.out.drop (c := c) K (by omega) hc)
        generalize cutX 4 A c K = A2 at s2 HD2
        go_upto_region 10 with (fail)
        have HRL := Lib.hid (fun (W : World) (hB : Below w2.heap.size w2 W) (hp : W.heap[w2.heap.size]? = some (.cells #[.string s, .int .i64 a, .int .i64 d, .string t] 140 (0, 0))) => show ∀ y ∈ ([⟨A, K, c, ps.take K⟩, ⟨some ⟨w2.heap.size, 0, none⟩, 1, 1, [(s, a, d, t)]⟩, ⟨A2, n - K, c - K, ps.drop K⟩] : List SlP), RdX prC 4 W y.a y.n y.l from fun y hy => by
          have HBN := HB19.out.trans (hB.mono HB19.out.size)
          rcases List.mem_cons.1 hy with e | hy
          · subst e; exact HD1.out.below HBN
          rcases List.mem_cons.1 hy with e | hy
          · subst e; exact rd_blk (f := prC) (s := 4) (fun _ => rfl) [(s, a, d, t)] hp rfl
          · have e : y = ⟨A2, n - K, c - K, ps.drop K⟩ := by simpa using hy
            subst e; exact HD2.out.below HBN)
        go_region_with (go_at_call 103; refine (pconcat_any (w2.heap.size + 1) 0 3 3 [⟨A, K, c, ps.take K⟩, ⟨some ⟨w2.heap.size, 0, none⟩, 1, 1, [(s, a, d, t)]⟩, ⟨A2, n - K, c - K, ps.drop K⟩] _ (rd_blk (f := slC) (s := 1) (fun _ => rfl) [⟨A, K, c, ps.take K⟩, ⟨some ⟨w2.heap.size, 0, none⟩, 1, 1, [(s, a, d, t)]⟩, ⟨A2, n - K, c - K, ps.drop K⟩] (newX_two _ _ _).2 rfl) (HRL.out _ (belX_two _ _ _) (newX_two _ _ _).1) (by omega) (by simp [totP]; omega)).mono ?_; rintro e w5 ⟨v2, rfl, ho2, hb2⟩)
        have HO2 := Lib.hid ho2
        have HBZ := Lib.hid (HB19.out.trans (((belX_two _ _ _).trans (hb2.mono (sizX_two _ _ _))).mono HB19.out.size))
        have hv2 := ho2.one
        clear ho2 hb2 s1 s2 hw1
        go_wp2_with fail
        go_ret2
        refine ⟨v2, by first | (rw [HV.out.1]; done) | (rw [HV.out.1]; rfl), ?_, HBZ.out⟩
        rw [HV.out.2]
        have k := HO2.out
        simp only [List.flatMap_cons, List.flatMap_nil, List.append_nil] at k
        rw [HSE.out, List.append_assoc]
        exact k.mono (Nat.le_trans HB19.out.size (sizX_two _ _ _))
    | true =>
      obtain ⟨hk, hkx⟩ := HL.out hin
      obtain ⟨K, hK⟩ : ∃ K, K = lesP ps s := ⟨_, rfl⟩
      have hkn : K < n := by rw [hK, ← L.out]; exact hk
      have HV := Lib.hid (setE_ok (ps := ps) HOK.out (show ¬ (inP ps (s, a, d, t).1 = false ∧ 8 ≤ ps.length) from fun q => by rw [show inP ps (s, a, d, t).1 = true from hin] at q; cases q.1))
      have HSE := Lib.hid (show setL ps (s, a, d, t) = (ps.take K ++ [(s, a, d, t)]) ++ ps.drop (K + 1) by
        have q := HSA.out
        rw [show (if inP ps (s, a, d, t).1 = true then lesP ps (s, a, d, t).1 + 1 else lesP ps (s, a, d, t).1) = lesP ps s + 1 from if_pos hin] at q
        rw [hK]; exact q)
      have hi0 : (0 : Int) ≤ (K : Int) := by omega
      have hi1 : (K : Int) < (n : Int) := by omega
      rw [hin, ← hK] at HF
      clear hin HL hkx hk hK
      have HB1 := Lib.hid (Below.refl w.heap.size w)
      go_enter Try.func43, Try.ntmps43
      have HF2 := Lib.hid (blk_new w (.cells #[.int .i64 a, .int .i64 d, .string t] 78 (0, 0)))
      have HB3 := Lib.hid (HB1.out.alloc HB1.out.size (.cells #[.int .i64 a, .int .i64 d, .string t] 78 (0, 0)))
      clear HB1
      have HF4 := Lib.hid (blk_alloc HF2.out (.cells #[.string s, .int .i64 a, .int .i64 d, .string t] 140 (0, 0)))
      clear HF2
      have HF5 : Hid (((w.alloc (.cells #[.int .i64 a, .int .i64 d, .string t] 78 (0, 0))).alloc (.cells #[.string s, .int .i64 a, .int .i64 d, .string t] 140 (0, 0))).heap[w.heap.size + 1]? = some (.cells #[.string s, .int .i64 a, .int .i64 d, .string t] 140 (0, 0))) := Lib.hid (blk_newN (W := (w.alloc (.cells #[.int .i64 a, .int .i64 d, .string t] 78 (0, 0)))) (o := (.cells #[.string s, .int .i64 a, .int .i64 d, .string t] 140 (0, 0))) (by simp))
      have HB6 := Lib.hid (HB3.out.alloc (by have := HB3.out.size; simp at this ⊢ <;> omega) (.cells #[.string s, .int .i64 a, .int .i64 d, .string t] 140 (0, 0)))
      clear HB3
      have hc7 : ((w.alloc (.cells #[.int .i64 a, .int .i64 d, .string t] 78 (0, 0))).alloc (.cells #[.string s, .int .i64 a, .int .i64 d, .string t] 140 (0, 0))).cell? ⟨w.heap.size, 0, none⟩ = some (.int .i64 a) := by rw [cell_of_row _ _ _ _ _ _ HF4.out]; rfl
      have hc8 : ((w.alloc (.cells #[.int .i64 a, .int .i64 d, .string t] 78 (0, 0))).alloc (.cells #[.string s, .int .i64 a, .int .i64 d, .string t] 140 (0, 0))).cell? ⟨w.heap.size, 1, none⟩ = some (.int .i64 d) := by rw [cell_of_row _ _ _ _ _ _ HF4.out]; rfl
      have hc9 : ((w.alloc (.cells #[.int .i64 a, .int .i64 d, .string t] 78 (0, 0))).alloc (.cells #[.string s, .int .i64 a, .int .i64 d, .string t] 140 (0, 0))).cell? ⟨w.heap.size, 2, none⟩ = some (.string t) := by rw [cell_of_row _ _ _ _ _ _ HF4.out]; rfl
      have hc10 : ((w.alloc (.cells #[.int .i64 a, .int .i64 d, .string t] 78 (0, 0))).alloc (.cells #[.string s, .int .i64 a, .int .i64 d, .string t] 140 (0, 0))).cell? ⟨w.heap.size + 1, 0, none⟩ = some (.string s) := by rw [cell_of_row _ _ _ _ _ _ HF5.out]; rfl
      have hc11 : ((w.alloc (.cells #[.int .i64 a, .int .i64 d, .string t] 78 (0, 0))).alloc (.cells #[.string s, .int .i64 a, .int .i64 d, .string t] 140 (0, 0))).cell? ⟨w.heap.size + 1, 1, none⟩ = some (.int .i64 a) := by rw [cell_of_row _ _ _ _ _ _ HF5.out]; rfl
      have hc12 : ((w.alloc (.cells #[.int .i64 a, .int .i64 d, .string t] 78 (0, 0))).alloc (.cells #[.string s, .int .i64 a, .int .i64 d, .string t] 140 (0, 0))).cell? ⟨w.heap.size + 1, 2, none⟩ = some (.int .i64 d) := by rw [cell_of_row _ _ _ _ _ _ HF5.out]; rfl
      have hc13 : ((w.alloc (.cells #[.int .i64 a, .int .i64 d, .string t] 78 (0, 0))).alloc (.cells #[.string s, .int .i64 a, .int .i64 d, .string t] 140 (0, 0))).cell? ⟨w.heap.size + 1, 3, none⟩ = some (.string t) := by rw [cell_of_row _ _ _ _ _ _ HF5.out]; rfl
      go_wp2_with fail
      clear hc7 hc8 hc9 hc10 hc11 hc12 hc13
      refine (HST.out ((w.alloc (.cells #[.int .i64 a, .int .i64 d, .string t] 78 (0, 0))).alloc (.cells #[.string s, .int .i64 a, .int .i64 d, .string t] 140 (0, 0)))).mono ?_
      rintro e w1 ⟨rfl, hb1⟩
      have HF14 := Lib.hid (blk_below HF4.out hb1)
      have HF15 := Lib.hid (blk_below HF5.out hb1)
      have HB16 := Lib.hid (HB6.out.trans (hb1.mono HB6.out.size))
      clear hb1 HB6 HF4 HF5
      go_wp2_with fail
      refine (HF.out w1 (H.out.below HB16.out)).mono ?_
      rintro e w2 ⟨rfl, hb2⟩
      have HF17 := Lib.hid (blk_below HF14.out hb2)
      have HF18 := Lib.hid (blk_below HF15.out hb2)
      have HB19 := Lib.hid (HB16.out.trans (hb2.mono HB16.out.size))
      clear hb2 HB16 HF14 HF15
      have hk20 : w.heap.size < w2.heap.size := lt_of_block HF17.out
      have hk21 : w.heap.size + 1 < w2.heap.size := lt_of_block HF18.out
      have hc22 : w2.cell? ⟨w.heap.size + 1, 0, none⟩ = some (.string s) := by rw [cell_of_row _ _ _ _ _ _ HF18.out]; rfl
      have hc23 : w2.cell? ⟨w.heap.size + 1, 1, none⟩ = some (.int .i64 a) := by rw [cell_of_row _ _ _ _ _ _ HF18.out]; rfl
      have hc24 : w2.cell? ⟨w.heap.size + 1, 2, none⟩ = some (.int .i64 d) := by rw [cell_of_row _ _ _ _ _ _ HF18.out]; rfl
      have hc25 : w2.cell? ⟨w.heap.size + 1, 3, none⟩ = some (.string t) := by rw [cell_of_row _ _ _ _ _ _ HF18.out]; rfl
      have s1 := fun W => pslice_to A n c K (by omega) W
      have s2 := fun W => pslice_from A n c (K + 1) ((K : Int) + 1) (by omega) (by omega) W
      have hw1 : IntKind.i64.wrap ((K : Int) + 1) = (K : Int) + 1 := IntWalk.i64_in _ (by omega)
      have HD1 := Lib.hid (H.out.take K (by omega))
      have HD2 := Lib.hid (H.out.drop (c := c) (K + 1) (by omega) hc)
      generalize cutX 4 A c (K + 1) = A2 at s2 HD2
      go_upto_region 10 with (fail)
      have HRL := Lib.hid (fun (W : World) (hB : Below w2.heap.size w2 W) (hp : W.heap[w2.heap.size]? = some (.cells #[.string s, .int .i64 a, .int .i64 d, .string t] 140 (0, 0))) => show ∀ y ∈ ([⟨A, K, c, ps.take K⟩, ⟨some ⟨w2.heap.size, 0, none⟩, 1, 1, [(s, a, d, t)]⟩, ⟨A2, n - (K + 1), c - (K + 1), ps.drop (K + 1)⟩] : List SlP), RdX prC 4 W y.a y.n y.l from fun y hy => by
        have HBN := HB19.out.trans (hB.mono HB19.out.size)
        rcases List.mem_cons.1 hy with e | hy
        · subst e; exact HD1.out.below HBN
        rcases List.mem_cons.1 hy with e | hy
        · subst e; exact rd_blk (f := prC) (s := 4) (fun _ => rfl) [(s, a, d, t)] hp rfl
        · have e : y = ⟨A2, n - (K + 1), c - (K + 1), ps.drop (K + 1)⟩ := by simpa using hy
          subst e; exact HD2.out.below HBN)
      go_region_with (go_at_call 103; refine (pconcat_any (w2.heap.size + 1) 0 3 3 [⟨A, K, c, ps.take K⟩, ⟨some ⟨w2.heap.size, 0, none⟩, 1, 1, [(s, a, d, t)]⟩, ⟨A2, n - (K + 1), c - (K + 1), ps.drop (K + 1)⟩] _ (rd_blk (f := slC) (s := 1) (fun _ => rfl) [⟨A, K, c, ps.take K⟩, ⟨some ⟨w2.heap.size, 0, none⟩, 1, 1, [(s, a, d, t)]⟩, ⟨A2, n - (K + 1), c - (K + 1), ps.drop (K + 1)⟩] (newX_two _ _ _).2 rfl) (HRL.out _ (belX_two _ _ _) (newX_two _ _ _).1) (by omega) (by simp [totP]; omega)).mono ?_; rintro e w5 ⟨v2, rfl, ho2, hb2⟩)
      have HO2 := Lib.hid ho2
      have HBZ := Lib.hid (HB19.out.trans (((belX_two _ _ _).trans (hb2.mono (sizX_two _ _ _))).mono HB19.out.size))
      have hv2 := ho2.one
      clear ho2 hb2 s1 s2 hw1
      go_wp2_with fail
      go_ret2
      refine ⟨v2, by first | (rw [HV.out.1]; done) | (rw [HV.out.1]; rfl), ?_, HBZ.out⟩
      rw [HV.out.2]
      have k := HO2.out
      simp only [List.flatMap_cons, List.flatMap_nil, List.append_nil] at k
      rw [HSE.out, List.append_assoc]
      exact k.mono (Nat.le_trans HB19.out.size (sizX_two _ _ _))
end Go.Proofs.Ytdjjabjegmbmaaa

namespace Go.Proofs.Ytdjjabjegmbmaaa
open Go.RowKit Vi

def atV (ps : List Pr) (x : ByteArray) : Int := if inP ps x = true then (lesP ps x : Int) else -1
set_option maxRecDepth 100000 in
set_option maxHeartbeats 1000000 in
theorem rat_any (A : Option Addr) (n c : Nat) (ps : List Pr) (x : ByteArray) (w : World) (h : RdX prC 4 w A n ps) (hn : n ≤ 1000000) (hr : Rise (keysP ps)) :
    Calls Try.prog 104 #[.slice A n c, .string x] w fun e w' => e = .returned (.int .i64 (atV ps x)) ∧ w = w' := by
  have H := Lib.hid h
  have L := Lib.hid h.1
  have HR := Lib.hid hr
  clear h hr
  go_enter Try.func104, Try.ntmps104
  go_wp2_with fail
  go_loop [5] (fun i => ∃ k : Nat, i = .int .i64 (k : Int) ∧ k ≤ n ∧ (∀ t (h : t < ps.length), t < k → ps[t].1 ≠ x)) (fun i => n - (intOf i).toNat)
  case atStart => exact ⟨0, rfl, Nat.zero_le _, fun t _ h => by omega⟩
  case round =>
    obtain ⟨k, rfl, hk, hno⟩ := hrel
    have HN := Lib.hid hno
    clear hno
    by_cases hlt : k < n
    · have hd1 : decide ((k : Int) < (n : Int)) = true := decide_eq_true (by omega)
      obtain ⟨b, off, hl, rfl, hbb, _⟩ := H.out.at hlt
      obtain ⟨y, hy⟩ : ∃ y, ps[k] = y := ⟨_, rfl⟩
      have HX := Lib.hid (show ps[k]? = some y by rw [List.getElem?_eq_getElem hl, hy])
      have HY := Lib.hid hy
      obtain ⟨s, a, d, t⟩ := y
      have a0 : w.cell? ⟨b, off + k * 4, none⟩ = some (.string s) := H.out.cellAt HX.out hlt 0 _ rfl
      have hi0 : (0 : Int) ≤ (k : Int) := by omega
      clear hy
      by_cases he : s = x
      · have hq : (s.toList == x.toList) = true := by rw [he]; simp
        have HV := Lib.hid (show (k : Int) = atV ps x by
          obtain ⟨e1, e2⟩ := in_idx (x := x) HR.out k hl (by rw [HY.out]; exact he)
          unfold atV
          rw [if_pos e2, e1])
        clear he
        go_wp2_with fail
        go_ret
        exact ⟨retI HV.out, rfl⟩
      · have hq : (s.toList == x.toList) = false := by
          rw [beq_eq_false_iff_ne]
          exact fun e => he (ba_ext e)
        have HN2 := Lib.hid (show ∀ t (h : t < ps.length), t < k + 1 → ps[t].1 ≠ x from fun t h ht => by
          by_cases e : t = k
          · subst e; rw [HY.out]; exact he
          · exact HN.out t h (by omega))
        clear he
        go_wp2_with fail
        go_round
        case rel => exact ⟨k + 1, by go_num, by omega, HN2.out⟩
        case measure => simp [intOf] <;> omega
    · have hd1 : decide ((k : Int) < (n : Int)) = false := decide_eq_false (by omega)
      have HV := Lib.hid (show (-1 : Int) = atV ps x by
        unfold atV
        rw [if_neg]
        intro hin
        obtain ⟨hk2, he⟩ := in_at HR.out hin
        exact HN.out _ hk2 (by have := L.out; omega) he)
      go_wp2_with fail
      go_ret
      exact ⟨retI HV.out, rfl⟩
set_option maxRecDepth 100000 in
set_option maxHeartbeats 1000000 in
theorem rget_any (A : Option Addr) (n c : Nat) (ps : List Pr) (x : ByteArray) (w : World) (h : RdX prC 4 w A n ps) (hn : n ≤ 1000000) (hr : Rise (keysP ps)) :
    Calls Try.prog 48 #[.slice A n c, .string x] w fun e w' => e = .returned (.tuple #[.agg (vvv (getV ps x)), .bool (inP ps x)]) ∧ Below w.heap.size w w' := by
  have H := Lib.hid h
  have HF := Lib.hid (fun (W : World) (q : RdX prC 4 W A n ps) => rat_any A n c ps x W q hn hr)
  have HL := Lib.hid (in_at (x := x) hr)
  have L := Lib.hid h.1
  clear h
  cases hin : inP ps x with
  | false =>
    have HV := Lib.hid (show vvv (getV ps x) = #[.int .i64 0, .int .i64 0, .string ⟨#[]⟩] by unfold getV; rw [if_neg (by rw [hin]; simp)]; rfl)
    have HA := Lib.hid (show atV ps x = -1 by unfold atV; rw [if_neg (by rw [hin]; simp)])
    rw [HA.out] at HF
    clear hin HL
    have HB1 := Lib.hid (Below.refl w.heap.size w)
    go_enter Try.func48, Try.ntmps48
    have HF2 := Lib.hid (blk_new w (.cells #[.int .i64 0, .int .i64 0, .string ⟨#[]⟩] 78 (0, 0)))
    have HB3 := Lib.hid (HB1.out.alloc HB1.out.size (.cells #[.int .i64 0, .int .i64 0, .string ⟨#[]⟩] 78 (0, 0)))
    clear HB1
    go_wp2_with fail
    refine (HF.out (w.alloc (.cells #[.int .i64 0, .int .i64 0, .string ⟨#[]⟩] 78 (0, 0))) (H.out.below HB3.out)).mono ?_
    rintro e w' ⟨rfl, rfl⟩
    go_wp2_with (first
      | refine wpList_store_rowY rfl 78 (.tmp 4) (.tmp 12) rfl (w.heap.size) #[.int .i64 0, .int .i64 0, .string ⟨#[]⟩] rfl rfl 78 _ HF2.out (info_val _ _ _) rfl (one_val _ _ _) w.heap.size w HB3.out (by omega) ?_)
    intro W1 hbk hoth hbel _
    have HF4 := Lib.hid hbk.out
    have HB5 := Lib.hid hbel.out
    clear hbk hoth hbel HB3  HF2
    go_wp2_with fail
    refine bodyPost_ret (results_ctY rfl _ _ (w.heap.size) #[.int .i64 0, .int .i64 0, .string ⟨#[]⟩] rfl (run_loadVar_row _ (w.heap.size) 78 78 _ (0, 0) _ HF4.out Try.underlying78 rfl (info_val _ _ _))) rfl ?_
    exact ⟨by first | (rw [HV.out]; done) | (rw [HV.out]; rfl), HB5.out⟩
  | true =>
    obtain ⟨hk, he⟩ := HL.out hin
    obtain ⟨K, hK⟩ : ∃ K, K = lesP ps x := ⟨_, rfl⟩
    obtain ⟨y, hy⟩ : ∃ y, ps[lesP ps x] = y := ⟨_, rfl⟩
    have HX := Lib.hid (show ps[K]? = some y by rw [hK, List.getElem?_eq_getElem hk, hy])
    obtain ⟨s, a, d, t⟩ := y
    have HV := Lib.hid (show vvv (getV ps x) = #[.int .i64 a, .int .i64 d, .string t] by rw [getV_at hin hk hy]; rfl)
    have hkn : K < n := by rw [hK, ← L.out]; exact hk
    have hi0 : (0 : Int) ≤ (K : Int) := by omega
    have hi1 : (K : Int) < (n : Int) := by omega
    have hneg : decide ((K : Int) < 0) = false := decide_eq_false (by omega)
    have HA := Lib.hid (show atV ps x = (K : Int) by unfold atV; rw [if_pos hin, hK])
    rw [HA.out] at HF
    obtain ⟨b, off, _, rfl, _, _⟩ := H.out.at hkn
    have HIN := Lib.hid hin
    clear hin
    clear HL he hy hk hK
    have HB1 := Lib.hid (Below.refl w.heap.size w)
    go_enter Try.func48, Try.ntmps48
    have HF2 := Lib.hid (blk_new w (.cells #[.int .i64 0, .int .i64 0, .string ⟨#[]⟩] 78 (0, 0)))
    have HB3 := Lib.hid (HB1.out.alloc HB1.out.size (.cells #[.int .i64 0, .int .i64 0, .string ⟨#[]⟩] 78 (0, 0)))
    clear HB1
    go_wp2_with fail
    refine (HF.out (w.alloc (.cells #[.int .i64 0, .int .i64 0, .string ⟨#[]⟩] 78 (0, 0))) (H.out.below HB3.out)).mono ?_
    rintro e w' ⟨rfl, rfl⟩
    have hc4 : (w.alloc (.cells #[.int .i64 0, .int .i64 0, .string ⟨#[]⟩] 78 (0, 0))).cell? ⟨b, off + K * 4 + 1, none⟩ = some (.int .i64 a) := (H.out.below HB3.out).cellAt HX.out hkn 1 _ rfl
    have hc5 : (w.alloc (.cells #[.int .i64 0, .int .i64 0, .string ⟨#[]⟩] 78 (0, 0))).cell? ⟨b, off + K * 4 + 2, none⟩ = some (.int .i64 d) := (H.out.below HB3.out).cellAt HX.out hkn 2 _ rfl
    have hc6 : (w.alloc (.cells #[.int .i64 0, .int .i64 0, .string ⟨#[]⟩] 78 (0, 0))).cell? ⟨b, off + K * 4 + 3, none⟩ = some (.string t) := (H.out.below HB3.out).cellAt HX.out hkn 3 _ rfl
    go_wp2_with (first
      | refine wpList_store_rowY rfl 78 (.tmp 4) (.tmp 17) rfl (w.heap.size) #[.int .i64 a, .int .i64 d, .string t] rfl rfl 78 _ HF2.out (info_val _ _ _) rfl (one_val _ _ _) w.heap.size w HB3.out (by omega) ?_)
    intro W1 hbk hoth hbel _
    clear hc4 hc5 hc6
    have HF7 := Lib.hid hbk.out
    have HB8 := Lib.hid hbel.out
    clear hbk hoth hbel HB3  HF2
    go_wp2_with fail
    refine bodyPost_ret (results_ctY rfl _ _ (w.heap.size) #[.int .i64 a, .int .i64 d, .string t] rfl (run_loadVar_row _ (w.heap.size) 78 78 _ (0, 0) _ HF7.out Try.underlying78 rfl (info_val _ _ _))) rfl ?_
    exact ⟨by first | (rw [HV.out]; done) | (rw [HV.out]; rfl), HB8.out⟩
set_option maxRecDepth 100000 in
set_option maxHeartbeats 4000000 in
theorem runset_any (A : Option Addr) (n c : Nat) (ps : List Pr) (x : ByteArray) (w : World) (h : RdX prC 4 w A n ps) (hn : n ≤ 8) (hc : n ≤ c) (hr : Rise (keysP ps)) :
    Calls Try.prog 46 #[.slice A n c, .string x] w (RetP w (usV ps x) (usE ps x)) := by
  have H := Lib.hid h
  have HF := Lib.hid (fun (W : World) (q : RdX prC 4 W A n ps) => rat_any A n c ps x W q (by omega) hr)
  have HL := Lib.hid (in_at (x := x) hr)
  have L := Lib.hid h.1
  clear h
  cases hin : inP ps x with
  | false =>
    have HV := Lib.hid (show usE ps x = 9 ∧ usV ps x = [] by unfold usE usV; rw [if_neg (by rw [hin]; simp), if_neg (by rw [hin]; simp)]; exact ⟨rfl, rfl⟩)
    have HA := Lib.hid (show atV ps x = -1 by unfold atV; rw [if_neg (by rw [hin]; simp)])
    rw [HA.out] at HF
    clear hin HL
    have HB1 := Lib.hid (Below.refl w.heap.size w)
    go_enter Try.func46, Try.ntmps46
    go_wp2_with fail
    refine (HF.out w H.out).mono ?_
    rintro e w' ⟨rfl, rfl⟩
    go_wp2_with fail
    go_ret2
    exact ⟨_, by first | (rw [HV.out.1]; done) | (rw [HV.out.1]; rfl), by rw [HV.out.2]; exact OwX.nil _, HB1.out⟩
  | true =>
    obtain ⟨hk, hkx⟩ := HL.out hin
    obtain ⟨K, hK⟩ : ∃ K, K = lesP ps x := ⟨_, rfl⟩
    have HV := Lib.hid (show usE ps x = 0 ∧ usV ps x = ps.take K ++ ps.drop (K + 1) by unfold usE usV; rw [if_pos hin, if_pos hin, hK]; exact ⟨rfl, rfl⟩)
    have hkn : K < n := by rw [hK, ← L.out]; exact hk
    have hi0 : (0 : Int) ≤ (K : Int) := by omega
    have hi1 : (K : Int) < (n : Int) := by omega
    have hneg : decide ((K : Int) < 0) = false := decide_eq_false (by omega)
    have HA := Lib.hid (show atV ps x = (K : Int) by unfold atV; rw [if_pos hin, hK])
    rw [HA.out] at HF
    clear hin HL hkx hk hK
    have HB1 := Lib.hid (Below.refl w.heap.size w)
    go_enter Try.func46, Try.ntmps46
    go_wp2_with fail
    refine (HF.out w H.out).mono ?_
    rintro e w' ⟨rfl, rfl⟩
    have s1 := fun W => pslice_to A n c K (by omega) W
    have s2 := fun W => pslice_from A n c (K + 1) ((K : Int) + 1) (by omega) (by omega) W
    have hw1 : IntKind.i64.wrap ((K : Int) + 1) = (K : Int) + 1 := IntWalk.i64_in _ (by omega)
    have HD1 := Lib.hid (H.out.take K (by omega))
    have HD2 := Lib.hid (H.out.drop (c := c) (K + 1) (by omega) hc)
    have HLT := Lib.hid (HD1.out.1)
    generalize cutX 4 A c (K + 1) = A2 at s2 HD2
    go_upto_region 4 with (fail)
    go_region_law (first
      | ((refine step_appXs ?_ (.tmp 12) (.tmp 15) 46 140 _ 48 ?_ Try.underlying46 info_prB rfl (by omega) (by omega) prC_len prC_one w.heap.size w ?_ ?_ (.slice (some ⟨w.heap.size, 0, none⟩) 0 0) [] ?_ (OwX.zero (cs := #[]) (newX_one _ _) (Nat.le_refl _) (Nat.zero_le _) rfl) A K c (ps.take K) ?_ (HD1.out.below (belX_one _ _)) ?_ ?_; (rfl); (rfl); (exact belX_one _ _); (exact Nat.le_of_lt (sizX_one _ _)); (rfl); (rfl); (simp; omega); intro v1 w1 HO1 HB1 HZ1 HG1))
      | ((refine step_appXs ?_ (.tmp 16) (.tmp 20) 46 140 _ 48 ?_ Try.underlying46 info_prB rfl (by omega) (by omega) prC_len prC_one w.heap.size w HB1.out HZ1.out v1 ([] ++ ps.take K) ?_ HO1.out A2 (n - (K + 1)) (c - (K + 1)) (ps.drop (K + 1)) ?_ (HD2.out.below HB1.out) ?_ ?_; (rfl); (rfl); (rfl); (rfl); (rw [List.nil_append, HLT.out]; omega); intro v2 w2 HO2 HB2 HZ2 HG2)))
    have hv2 := HO2.out.one
    clear s1 s2 hw1
    go_wp2_with fail
    go_ret2
    refine ⟨v2, by first | (rw [HV.out.1]; done) | (rw [HV.out.1]; rfl), ?_, HB2.out⟩
    rw [HV.out.2]
    have k := HO2.out
    rw [List.nil_append] at k
    exact k
theorem filt_take {α : Type} (p : α → Bool) (l : List α) (k : Nat) (h : k < l.length) : (l.take (k + 1)).filter p = (l.take k).filter p ++ (if p l[k] = true then [l[k]] else []) := by
  rw [List.take_succ_eq_append_getElem h, List.filter_append]
  congr 1
  cases hp : p l[k] <;> simp [hp]
theorem gt_no {s p : ByteArray} (h : leS s p = true) : Op.bytesLess p.toList s.toList = false := by
  cases e : Op.bytesLess p.toList s.toList with
  | false => rfl
  | true => rw [no_le e] at h; cases h
theorem filt_len {α : Type} (p : α → Bool) (l : List α) (k : Nat) : ((l.take k).filter p).length ≤ k := by
  have h1 := List.length_filter_le p (l.take k)
  rw [List.length_take] at h1
  omega
set_option maxRecDepth 100000 in
set_option maxHeartbeats 8000000 in
theorem rset_any (A : Option Addr) (n c : Nat) (ps : List Pr) (s : ByteArray) (a d : Int) (t : ByteArray) (w : World) (h : RdX prC 4 w A n ps) (hn : n ≤ 8) (hr : Rise (keysP ps)) (hs : s.size ≤ maxLen) :
    Calls Try.prog 44 #[.slice A n c, .string s, .agg #[.int .i64 a, .int .i64 d, .string t]] w (RetP w (setV ps (s, a, d, t)) (setE ps (s, a, d, t))) := by
  have H := Lib.hid h
  have HF := Lib.hid (fun (W : World) (q : RdX prC 4 W A n ps) => rat_any A n c ps s W q (by omega) hr)
  have HC := Lib.hid (fun W : World => refIs_any s W hs)
  have HD := Lib.hid (fun W : World => vis_any a d t W)
  have L := Lib.hid h.1
  clear h
  cases hn1 : nm s with
  | false =>
    have HV := Lib.hid (setE_bad (ps := ps) (p := (s, a, d, t)) (by unfold okP; rw [show nm (s, a, d, t).1 = false from hn1]; rfl))
    rw [hn1] at HC
    clear hn1
    have HB1 := Lib.hid (Below.refl w.heap.size w)
    go_enter Try.func44, Try.ntmps44
    have HF2 := Lib.hid (blk_new w (.cells #[.int .i64 a, .int .i64 d, .string t] 78 (0, 0)))
    have HB3 := Lib.hid (HB1.out.alloc HB1.out.size (.cells #[.int .i64 a, .int .i64 d, .string t] 78 (0, 0)))
    clear HB1
    have hc4 : (w.alloc (.cells #[.int .i64 a, .int .i64 d, .string t] 78 (0, 0))).cell? ⟨w.heap.size, 0, none⟩ = some (.int .i64 a) := by rw [cell_of_row _ _ _ _ _ _ HF2.out]; rfl
    have hc5 : (w.alloc (.cells #[.int .i64 a, .int .i64 d, .string t] 78 (0, 0))).cell? ⟨w.heap.size, 1, none⟩ = some (.int .i64 d) := by rw [cell_of_row _ _ _ _ _ _ HF2.out]; rfl
    have hc6 : (w.alloc (.cells #[.int .i64 a, .int .i64 d, .string t] 78 (0, 0))).cell? ⟨w.heap.size, 2, none⟩ = some (.string t) := by rw [cell_of_row _ _ _ _ _ _ HF2.out]; rfl
    go_wp2_with fail
    refine (HC.out (w.alloc (.cells #[.int .i64 a, .int .i64 d, .string t] 78 (0, 0)))).mono ?_
    rintro e w' ⟨rfl, rfl⟩
    go_wp2_with fail
    go_ret2
    exact ⟨_, by first | (rw [HV.out.1]; done) | (rw [HV.out.1]; rfl), by rw [HV.out.2]; exact OwX.nil _, HB3.out⟩
  | true =>
    have HNM := Lib.hid hn1
    rw [hn1] at HC
    clear hn1
    cases hv : vok a d t with
    | false =>
      have HV := Lib.hid (setE_bad (ps := ps) (p := (s, a, d, t)) (by unfold okP; rw [show vok (s, a, d, t).2.1 (s, a, d, t).2.2.1 (s, a, d, t).2.2.2 = false from hv]; simp))
      rw [hv] at HD
      clear hv
      have HB1 := Lib.hid (Below.refl w.heap.size w)
      go_enter Try.func44, Try.ntmps44
      have HF2 := Lib.hid (blk_new w (.cells #[.int .i64 a, .int .i64 d, .string t] 78 (0, 0)))
      have HB3 := Lib.hid (HB1.out.alloc HB1.out.size (.cells #[.int .i64 a, .int .i64 d, .string t] 78 (0, 0)))
      clear HB1
      have hc4 : (w.alloc (.cells #[.int .i64 a, .int .i64 d, .string t] 78 (0, 0))).cell? ⟨w.heap.size, 0, none⟩ = some (.int .i64 a) := by rw [cell_of_row _ _ _ _ _ _ HF2.out]; rfl
      have hc5 : (w.alloc (.cells #[.int .i64 a, .int .i64 d, .string t] 78 (0, 0))).cell? ⟨w.heap.size, 1, none⟩ = some (.int .i64 d) := by rw [cell_of_row _ _ _ _ _ _ HF2.out]; rfl
      have hc6 : (w.alloc (.cells #[.int .i64 a, .int .i64 d, .string t] 78 (0, 0))).cell? ⟨w.heap.size, 2, none⟩ = some (.string t) := by rw [cell_of_row _ _ _ _ _ _ HF2.out]; rfl
      go_wp2_with fail
      refine (HC.out (w.alloc (.cells #[.int .i64 a, .int .i64 d, .string t] 78 (0, 0)))).mono ?_
      rintro e w' ⟨rfl, rfl⟩
      go_wp2_with fail
      clear hc4 hc5 hc6
      refine (HD.out (w.alloc (.cells #[.int .i64 a, .int .i64 d, .string t] 78 (0, 0)))).mono ?_
      rintro e w1 ⟨rfl, hb1⟩
      have HF7 := Lib.hid (blk_below HF2.out hb1)
      have HB8 := Lib.hid (HB3.out.trans (hb1.mono HB3.out.size))
      clear hb1 HB3 HF2
      go_wp2_with fail
      go_ret2
      exact ⟨_, by first | (rw [HV.out.1]; done) | (rw [HV.out.1]; rfl), by rw [HV.out.2]; exact OwX.nil _, HB8.out⟩
    | true =>
      have HOK := Lib.hid (show okP (s, a, d, t) = true by unfold okP; rw [show vok (s, a, d, t).2.1 (s, a, d, t).2.2.1 (s, a, d, t).2.2.2 = true from hv, show nm (s, a, d, t).1 = true from HNM.out]; rfl)
      rw [hv] at HD
      clear hv
      by_cases hfull : inP ps s = false ∧ 8 ≤ ps.length
      · have HV := Lib.hid (setE_full (ps := ps) (p := (s, a, d, t)) HOK.out hfull.1 hfull.2)
        have HA := Lib.hid (show atV ps s = -1 by unfold atV; rw [if_neg (by rw [hfull.1]; simp)])
        rw [HA.out] at HF
        have d8 : decide ((8 : Int) ≤ (n : Int)) = true := decide_eq_true (by have := hfull.2; rw [L.out] at this; omega)
        clear hfull
        have HB1 := Lib.hid (Below.refl w.heap.size w)
        go_enter Try.func44, Try.ntmps44
        have HF2 := Lib.hid (blk_new w (.cells #[.int .i64 a, .int .i64 d, .string t] 78 (0, 0)))
        have HB3 := Lib.hid (HB1.out.alloc HB1.out.size (.cells #[.int .i64 a, .int .i64 d, .string t] 78 (0, 0)))
        clear HB1
        have hc4 : (w.alloc (.cells #[.int .i64 a, .int .i64 d, .string t] 78 (0, 0))).cell? ⟨w.heap.size, 0, none⟩ = some (.int .i64 a) := by rw [cell_of_row _ _ _ _ _ _ HF2.out]; rfl
        have hc5 : (w.alloc (.cells #[.int .i64 a, .int .i64 d, .string t] 78 (0, 0))).cell? ⟨w.heap.size, 1, none⟩ = some (.int .i64 d) := by rw [cell_of_row _ _ _ _ _ _ HF2.out]; rfl
        have hc6 : (w.alloc (.cells #[.int .i64 a, .int .i64 d, .string t] 78 (0, 0))).cell? ⟨w.heap.size, 2, none⟩ = some (.string t) := by rw [cell_of_row _ _ _ _ _ _ HF2.out]; rfl
        go_wp2_with fail
        refine (HC.out (w.alloc (.cells #[.int .i64 a, .int .i64 d, .string t] 78 (0, 0)))).mono ?_
        rintro e w' ⟨rfl, rfl⟩
        go_wp2_with fail
        clear hc4 hc5 hc6
        refine (HD.out (w.alloc (.cells #[.int .i64 a, .int .i64 d, .string t] 78 (0, 0)))).mono ?_
        rintro e w1 ⟨rfl, hb1⟩
        have HF7 := Lib.hid (blk_below HF2.out hb1)
        have HB8 := Lib.hid (HB3.out.trans (hb1.mono HB3.out.size))
        clear hb1 HB3 HF2
        go_wp2_with fail
        refine (HF.out w1 (H.out.below HB8.out)).mono ?_
        rintro e w' ⟨rfl, rfl⟩
        go_wp2_with fail
        go_ret2
        exact ⟨_, by first | (rw [HV.out.1]; done) | (rw [HV.out.1]; rfl), by rw [HV.out.2]; exact OwX.nil _, HB8.out⟩
      have HV := Lib.hid (setE_ok (ps := ps) (p := (s, a, d, t)) HOK.out hfull)
      have hway : (decide (atV ps s < 0) = false) ∨ (decide (atV ps s < 0) = true ∧ decide ((8 : Int) ≤ (n : Int)) = false) := by
        cases hin : inP ps s with
        | true => exact Or.inl (decide_eq_false (by unfold atV; rw [if_pos hin]; omega))
        | false =>
          refine Or.inr ⟨decide_eq_true (by unfold atV; rw [if_neg (by rw [hin]; simp)]; omega), decide_eq_false ?_⟩
          intro h8
          exact hfull ⟨hin, by rw [L.out]; omega⟩
      generalize atV ps s = z at HF hway
      clear hfull
      rcases hway with hw1 | ⟨hw1, hw2⟩
      · have HB1 := Lib.hid (Below.refl w.heap.size w)
        go_enter Try.func44, Try.ntmps44
        have HF2 := Lib.hid (blk_new w (.cells #[.int .i64 a, .int .i64 d, .string t] 78 (0, 0)))
        have HB3 := Lib.hid (HB1.out.alloc HB1.out.size (.cells #[.int .i64 a, .int .i64 d, .string t] 78 (0, 0)))
        clear HB1
        have hc4 : (w.alloc (.cells #[.int .i64 a, .int .i64 d, .string t] 78 (0, 0))).cell? ⟨w.heap.size, 0, none⟩ = some (.int .i64 a) := by rw [cell_of_row _ _ _ _ _ _ HF2.out]; rfl
        have hc5 : (w.alloc (.cells #[.int .i64 a, .int .i64 d, .string t] 78 (0, 0))).cell? ⟨w.heap.size, 1, none⟩ = some (.int .i64 d) := by rw [cell_of_row _ _ _ _ _ _ HF2.out]; rfl
        have hc6 : (w.alloc (.cells #[.int .i64 a, .int .i64 d, .string t] 78 (0, 0))).cell? ⟨w.heap.size, 2, none⟩ = some (.string t) := by rw [cell_of_row _ _ _ _ _ _ HF2.out]; rfl
        go_wp2_with fail
        refine (HC.out (w.alloc (.cells #[.int .i64 a, .int .i64 d, .string t] 78 (0, 0)))).mono ?_
        rintro e w' ⟨rfl, rfl⟩
        go_wp2_with fail
        clear hc4 hc5 hc6
        refine (HD.out (w.alloc (.cells #[.int .i64 a, .int .i64 d, .string t] 78 (0, 0)))).mono ?_
        rintro e w1 ⟨rfl, hb1⟩
        have HF7 := Lib.hid (blk_below HF2.out hb1)
        have HB8 := Lib.hid (HB3.out.trans (hb1.mono HB3.out.size))
        clear hb1 HB3 HF2
        go_wp2_with fail
        refine (HF.out w1 (H.out.below HB8.out)).mono ?_
        rintro e w' ⟨rfl, rfl⟩
        go_wp2_with fail
        go_loopw [8, 9] (fun vv i wr => ∃ (k : Nat) (v : Value) (M : List Pr), v = vv ∧ i = .int .i64 (k : Int) ∧ k ≤ n ∧ M = (ps.take k).filter (ltP s) ∧ OwX prC 4 140 wr (w.heap.size + 1) v M ∧ wr.heap[w.heap.size]? = some (.cells #[.int .i64 a, .int .i64 d, .string t] 78 (0, 0)) ∧ Below w.heap.size w wr) (fun _ i _ => n - (intOf i).toNat)
        case atStart => exact ⟨0, _, [], rfl, rfl, Nat.zero_le _, rfl, OwX.nil _, HF7.out, HB8.out⟩
        case round =>
          obtain ⟨k, v, M, rfl, rfl, hk, hM, how, hbx, hb⟩ := hrel
          have HM := Lib.hid hM
          clear hM
          have HO := Lib.hid how
          have HBX := Lib.hid hbx
          have HB := Lib.hid hb
          have hv := how.one
          have hCw := lt_of_block hbx
          clear how hbx hb
          by_cases hlt : k < n
          · have hd1 : decide ((k : Int) < (n : Int)) = true := decide_eq_true (by omega)
            obtain ⟨b, off, hl, rfl, hbb, _⟩ := (H.out.below HB.out).at hlt
            have HFT := Lib.hid (filt_take (ltP s) ps k hl)
            have hfl := filt_len (ltP s) ps k
            obtain ⟨y, hy⟩ : ∃ y, ps[k] = y := ⟨_, rfl⟩
            have HX := Lib.hid (show ps[k]? = some y by rw [List.getElem?_eq_getElem hl, hy])
            rw [hy] at HFT
            obtain ⟨s2, a2, d2, t2⟩ := y
            have hi0 : (0 : Int) ≤ (k : Int) := by omega
            clear hy
            cases hq : Op.bytesLess s2.toList s.toList with
            | true =>
              have HR := Lib.hid (show M ++ [(s2, a2, d2, t2)] = (ps.take (k + 1)).filter (ltP s) by rw [HFT.out, if_pos (show ltP s (s2, a2, d2, t2) = true from hq), HM.out])
              have hML : M.length ≤ 17 := by rw [HM.out]; omega
              have hc101 : wr.cell? ⟨b, off + k * 4, none⟩ = some (.string s2) := (H.out.below HB.out).cellAt HX.out hlt 0 _ rfl
              have hc102 : wr.cell? ⟨b, off + k * 4 + 1, none⟩ = some (.int .i64 a2) := (H.out.below HB.out).cellAt HX.out hlt 1 _ rfl
              have hc103 : wr.cell? ⟨b, off + k * 4 + 2, none⟩ = some (.int .i64 d2) := (H.out.below HB.out).cellAt HX.out hlt 2 _ rfl
              have hc104 : wr.cell? ⟨b, off + k * 4 + 3, none⟩ = some (.string t2) := (H.out.below HB.out).cellAt HX.out hlt 3 _ rfl
              have hz1 : w.heap.size + 1 ≤ wr.heap.size := by omega
              have HRa := Lib.hid (Below.refl (w.heap.size + 1) wr)
              go_wp2_with (at_builtin; refine wpList_appX rfl (.tmp 41) (.tmp 46) 46 140 _ 48 rfl Try.underlying46 info_prB rfl (by omega) (by omega) prC_len prC_one (w.heap.size + 1) wr (HRa.out.alloc hz1 _) (by simp; omega) v _ rfl (HO.out.alloc _) wr.heap.size 1 (s2, a2, d2, t2) #[.string s2, .int .i64 a2, .int .i64 d2, .string t2] 140 (0, 0) rfl (heap_alloc_new wr _) rfl (by omega) ?_)
              intro v7 w7 HO7 HB7 HZ7 HG7
              clear hc101 hc102 hc103 hc104
              have HX7 := Lib.hid ((HB7.out.block (w.heap.size) (by omega)).trans HBX.out)
              have HL7 := Lib.hid (HB.out.trans (HB7.out.mono (by omega)))
              have hv7 := HO7.out.one
              go_wp2_with fail
              go_roundw
              case rel => exact ⟨k + 1, v7, _, rfl, by go_num, by omega, HR.out, HO7.out, HX7.out, HL7.out⟩
              case measure => simp [intOf] <;> omega
            | false =>
              have HR := Lib.hid (show M = (ps.take (k + 1)).filter (ltP s) by rw [HFT.out, if_neg (by rw [show ltP s (s2, a2, d2, t2) = false from hq]; simp), List.append_nil, HM.out])
              have hc101 : wr.cell? ⟨b, off + k * 4, none⟩ = some (.string s2) := (H.out.below HB.out).cellAt HX.out hlt 0 _ rfl
              go_wp2_with fail
              go_roundw
              case rel => exact ⟨k + 1, v, M, rfl, by go_num, by omega, HR.out, HO.out, HBX.out, HB.out⟩
              case measure => simp [intOf] <;> omega
          · have hd1 : decide ((k : Int) < (n : Int)) = false := decide_eq_false (by omega)
            have HE := Lib.hid (show ps.take k = ps from List.take_of_length_le (by rw [L.out]; omega))
            have HM1 := Lib.hid (show M = ps.filter (ltP s) by rw [HM.out, HE.out])
            have HFL := Lib.hid (show (ps.filter (ltP s)).length ≤ 8 by have := List.length_filter_le (ltP s) ps; have := L.out; omega)
            have hz1 : w.heap.size + 1 ≤ wr.heap.size := by omega
            have HRa := Lib.hid (Below.refl (w.heap.size + 1) wr)
            have hc101 : wr.cell? ⟨w.heap.size, 0, none⟩ = some (.int .i64 a) := by rw [cell_of_row _ _ _ _ _ _ HBX.out]; rfl
            have hc102 : wr.cell? ⟨w.heap.size, 1, none⟩ = some (.int .i64 d) := by rw [cell_of_row _ _ _ _ _ _ HBX.out]; rfl
            have hc103 : wr.cell? ⟨w.heap.size, 2, none⟩ = some (.string t) := by rw [cell_of_row _ _ _ _ _ _ HBX.out]; rfl
            go_wp2_with (at_builtin; refine wpList_appX rfl (.tmp 48) (.tmp 52) 46 140 _ 48 rfl Try.underlying46 info_prB rfl (by omega) (by omega) prC_len prC_one (w.heap.size + 1) wr (HRa.out.alloc hz1 _) (by simp; omega) v _ rfl (HO.out.alloc _) wr.heap.size 1 (s, a, d, t) #[.string s, .int .i64 a, .int .i64 d, .string t] 140 (0, 0) rfl (heap_alloc_new wr _) rfl (by rw [HM1.out]; have := HFL.out; omega) ?_)
            intro v7 w7 HO7 HB7 HZ7 HG7
            clear hc101 hc102 hc103
            have HX7 := Lib.hid ((HB7.out.block (w.heap.size) (by omega)).trans HBX.out)
            have HL7 := Lib.hid (HB.out.trans (HB7.out.mono (by omega)))
            have hv7 := HO7.out.one
            clear hd1
            go_wp2_with fail
            go_loopw [8, 10] (fun vv i wr => ∃ (j : Nat) (v : Value) (M : List Pr), v = vv ∧ i = .int .i64 (j : Int) ∧ j ≤ n ∧ M = (ps.filter (ltP s) ++ [(s, a, d, t)]) ++ (ps.take j).filter (gtP s) ∧ OwX prC 4 140 wr (w.heap.size + 1) v M ∧ wr.heap[w.heap.size]? = some (.cells #[.int .i64 a, .int .i64 d, .string t] 78 (0, 0)) ∧ Below w.heap.size w wr) (fun _ i _ => n - (intOf i).toNat)
            case atStart => exact ⟨0, v7, _, rfl, rfl, Nat.zero_le _, by rw [List.take_zero, List.filter_nil, List.append_nil, HM1.out], HO7.out, HX7.out, HL7.out⟩
            case round =>
              obtain ⟨j, v, M, rfl, rfl, hj, hM, how, hbx, hb⟩ := hrel
              have HM := Lib.hid hM
              clear hM
              have HO2 := Lib.hid how
              have HBX2 := Lib.hid hbx
              have HB2 := Lib.hid hb
              have hv := how.one
              have hCw2 := lt_of_block hbx
              clear how hbx hb
              by_cases hlt2 : j < n
              · have hd1 : decide ((j : Int) < (n : Int)) = true := decide_eq_true (by omega)
                obtain ⟨b, off, hl, rfl, hbb, _⟩ := (H.out.below HB2.out).at hlt2
                have HFT := Lib.hid (filt_take (gtP s) ps j hl)
                have hfl := filt_len (gtP s) ps j
                obtain ⟨y, hy⟩ : ∃ y, ps[j] = y := ⟨_, rfl⟩
                have HX := Lib.hid (show ps[j]? = some y by rw [List.getElem?_eq_getElem hl, hy])
                rw [hy] at HFT
                obtain ⟨s2, a2, d2, t2⟩ := y
                have hi0 : (0 : Int) ≤ (j : Int) := by omega
                clear hy
                rcases leS_cases s2 s with ⟨g1, hg⟩ | ⟨g1, g2, hg⟩ | ⟨g1, g2, hg⟩
                · have HR := Lib.hid (show M = (ps.filter (ltP s) ++ [(s, a, d, t)]) ++ (ps.take (j + 1)).filter (gtP s) by rw [HFT.out, if_neg (by rw [show gtP s (s2, a2, d2, t2) = false from gt_no hg]; simp), List.append_nil, HM.out])
                  have hc101 : wr.cell? ⟨b, off + j * 4, none⟩ = some (.string s2) := (H.out.below HB2.out).cellAt HX.out hlt2 0 _ rfl
                  go_wp2_with fail
                  go_roundw
                  case rel => exact ⟨j + 1, v, M, rfl, by go_num, by omega, HR.out, HO2.out, HBX2.out, HB2.out⟩
                  case measure => simp [intOf] <;> omega
                · have HR := Lib.hid (show M = (ps.filter (ltP s) ++ [(s, a, d, t)]) ++ (ps.take (j + 1)).filter (gtP s) by rw [HFT.out, if_neg (by rw [show gtP s (s2, a2, d2, t2) = false from gt_no hg]; simp), List.append_nil, HM.out])
                  have hc101 : wr.cell? ⟨b, off + j * 4, none⟩ = some (.string s2) := (H.out.below HB2.out).cellAt HX.out hlt2 0 _ rfl
                  go_wp2_with fail
                  go_roundw
                  case rel => exact ⟨j + 1, v, M, rfl, by go_num, by omega, HR.out, HO2.out, HBX2.out, HB2.out⟩
                  case measure => simp [intOf] <;> omega
                · have HR := Lib.hid (show M ++ [(s2, a2, d2, t2)] = (ps.filter (ltP s) ++ [(s, a, d, t)]) ++ (ps.take (j + 1)).filter (gtP s) by rw [HFT.out, if_pos (show gtP s (s2, a2, d2, t2) = true from le_no hg), ← List.append_assoc, HM.out])
                  have hML : M.length ≤ 17 := by rw [HM.out]; rw [List.length_append, List.length_append]; have := HFL.out; simp; omega
                  have hc101 : wr.cell? ⟨b, off + j * 4, none⟩ = some (.string s2) := (H.out.below HB2.out).cellAt HX.out hlt2 0 _ rfl
                  have hc102 : wr.cell? ⟨b, off + j * 4 + 1, none⟩ = some (.int .i64 a2) := (H.out.below HB2.out).cellAt HX.out hlt2 1 _ rfl
                  have hc103 : wr.cell? ⟨b, off + j * 4 + 2, none⟩ = some (.int .i64 d2) := (H.out.below HB2.out).cellAt HX.out hlt2 2 _ rfl
                  have hc104 : wr.cell? ⟨b, off + j * 4 + 3, none⟩ = some (.string t2) := (H.out.below HB2.out).cellAt HX.out hlt2 3 _ rfl
                  have hz1 : w.heap.size + 1 ≤ wr.heap.size := by omega
                  have HRa := Lib.hid (Below.refl (w.heap.size + 1) wr)
                  go_wp2_with (at_builtin; refine wpList_appX rfl (.tmp 67) (.tmp 72) 46 140 _ 48 rfl Try.underlying46 info_prB rfl (by omega) (by omega) prC_len prC_one (w.heap.size + 1) wr (HRa.out.alloc hz1 _) (by simp; omega) v _ rfl (HO2.out.alloc _) wr.heap.size 1 (s2, a2, d2, t2) #[.string s2, .int .i64 a2, .int .i64 d2, .string t2] 140 (0, 0) rfl (heap_alloc_new wr _) rfl (by omega) ?_)
                  intro v7 w7 HO7 HB7 HZ7 HG7
                  clear hc101 hc102 hc103 hc104
                  have HX7 := Lib.hid ((HB7.out.block (w.heap.size) (by omega)).trans HBX2.out)
                  have HL7 := Lib.hid (HB2.out.trans (HB7.out.mono (by omega)))
                  have hv7 := HO7.out.one
                  go_wp2_with fail
                  go_roundw
                  case rel => exact ⟨j + 1, v7, _, rfl, by go_num, by omega, HR.out, HO7.out, HX7.out, HL7.out⟩
                  case measure => simp [intOf] <;> omega
              · have hd1 : decide ((j : Int) < (n : Int)) = false := decide_eq_false (by omega)
                have HE2 := Lib.hid (show ps.take j = ps from List.take_of_length_le (by rw [L.out]; omega))
                go_wp2_with fail
                go_ret2
                exact ⟨v, by first | (rw [HV.out.1]; done) | (rw [HV.out.1]; rfl), by rw [HV.out.2]; have k := HO2.out.mono (B' := w.heap.size) (by omega); rw [HM.out, HE2.out] at k; exact k, HB2.out⟩
      · have HB1 := Lib.hid (Below.refl w.heap.size w)
        go_enter Try.func44, Try.ntmps44
        have HF2 := Lib.hid (blk_new w (.cells #[.int .i64 a, .int .i64 d, .string t] 78 (0, 0)))
        have HB3 := Lib.hid (HB1.out.alloc HB1.out.size (.cells #[.int .i64 a, .int .i64 d, .string t] 78 (0, 0)))
        clear HB1
        have hc4 : (w.alloc (.cells #[.int .i64 a, .int .i64 d, .string t] 78 (0, 0))).cell? ⟨w.heap.size, 0, none⟩ = some (.int .i64 a) := by rw [cell_of_row _ _ _ _ _ _ HF2.out]; rfl
        have hc5 : (w.alloc (.cells #[.int .i64 a, .int .i64 d, .string t] 78 (0, 0))).cell? ⟨w.heap.size, 1, none⟩ = some (.int .i64 d) := by rw [cell_of_row _ _ _ _ _ _ HF2.out]; rfl
        have hc6 : (w.alloc (.cells #[.int .i64 a, .int .i64 d, .string t] 78 (0, 0))).cell? ⟨w.heap.size, 2, none⟩ = some (.string t) := by rw [cell_of_row _ _ _ _ _ _ HF2.out]; rfl
        go_wp2_with fail
        refine (HC.out (w.alloc (.cells #[.int .i64 a, .int .i64 d, .string t] 78 (0, 0)))).mono ?_
        rintro e w' ⟨rfl, rfl⟩
        go_wp2_with fail
        clear hc4 hc5 hc6
        refine (HD.out (w.alloc (.cells #[.int .i64 a, .int .i64 d, .string t] 78 (0, 0)))).mono ?_
        rintro e w1 ⟨rfl, hb1⟩
        have HF7 := Lib.hid (blk_below HF2.out hb1)
        have HB8 := Lib.hid (HB3.out.trans (hb1.mono HB3.out.size))
        clear hb1 HB3 HF2
        go_wp2_with fail
        refine (HF.out w1 (H.out.below HB8.out)).mono ?_
        rintro e w' ⟨rfl, rfl⟩
        go_wp2_with fail
        go_loopw [8, 9] (fun vv i wr => ∃ (k : Nat) (v : Value) (M : List Pr), v = vv ∧ i = .int .i64 (k : Int) ∧ k ≤ n ∧ M = (ps.take k).filter (ltP s) ∧ OwX prC 4 140 wr (w.heap.size + 1) v M ∧ wr.heap[w.heap.size]? = some (.cells #[.int .i64 a, .int .i64 d, .string t] 78 (0, 0)) ∧ Below w.heap.size w wr) (fun _ i _ => n - (intOf i).toNat)
        case atStart => exact ⟨0, _, [], rfl, rfl, Nat.zero_le _, rfl, OwX.nil _, HF7.out, HB8.out⟩
        case round =>
          obtain ⟨k, v, M, rfl, rfl, hk, hM, how, hbx, hb⟩ := hrel
          have HM := Lib.hid hM
          clear hM
          have HO := Lib.hid how
          have HBX := Lib.hid hbx
          have HB := Lib.hid hb
          have hv := how.one
          have hCw := lt_of_block hbx
          clear how hbx hb
          by_cases hlt : k < n
          · have hd1 : decide ((k : Int) < (n : Int)) = true := decide_eq_true (by omega)
            obtain ⟨b, off, hl, rfl, hbb, _⟩ := (H.out.below HB.out).at hlt
            have HFT := Lib.hid (filt_take (ltP s) ps k hl)
            have hfl := filt_len (ltP s) ps k
            obtain ⟨y, hy⟩ : ∃ y, ps[k] = y := ⟨_, rfl⟩
            have HX := Lib.hid (show ps[k]? = some y by rw [List.getElem?_eq_getElem hl, hy])
            rw [hy] at HFT
            obtain ⟨s2, a2, d2, t2⟩ := y
            have hi0 : (0 : Int) ≤ (k : Int) := by omega
            clear hy
            cases hq : Op.bytesLess s2.toList s.toList with
            | true =>
              have HR := Lib.hid (show M ++ [(s2, a2, d2, t2)] = (ps.take (k + 1)).filter (ltP s) by rw [HFT.out, if_pos (show ltP s (s2, a2, d2, t2) = true from hq), HM.out])
              have hML : M.length ≤ 17 := by rw [HM.out]; omega
              have hc101 : wr.cell? ⟨b, off + k * 4, none⟩ = some (.string s2) := (H.out.below HB.out).cellAt HX.out hlt 0 _ rfl
              have hc102 : wr.cell? ⟨b, off + k * 4 + 1, none⟩ = some (.int .i64 a2) := (H.out.below HB.out).cellAt HX.out hlt 1 _ rfl
              have hc103 : wr.cell? ⟨b, off + k * 4 + 2, none⟩ = some (.int .i64 d2) := (H.out.below HB.out).cellAt HX.out hlt 2 _ rfl
              have hc104 : wr.cell? ⟨b, off + k * 4 + 3, none⟩ = some (.string t2) := (H.out.below HB.out).cellAt HX.out hlt 3 _ rfl
              have hz1 : w.heap.size + 1 ≤ wr.heap.size := by omega
              have HRa := Lib.hid (Below.refl (w.heap.size + 1) wr)
              go_wp2_with (at_builtin; refine wpList_appX rfl (.tmp 41) (.tmp 46) 46 140 _ 48 rfl Try.underlying46 info_prB rfl (by omega) (by omega) prC_len prC_one (w.heap.size + 1) wr (HRa.out.alloc hz1 _) (by simp; omega) v _ rfl (HO.out.alloc _) wr.heap.size 1 (s2, a2, d2, t2) #[.string s2, .int .i64 a2, .int .i64 d2, .string t2] 140 (0, 0) rfl (heap_alloc_new wr _) rfl (by omega) ?_)
              intro v7 w7 HO7 HB7 HZ7 HG7
              clear hc101 hc102 hc103 hc104
              have HX7 := Lib.hid ((HB7.out.block (w.heap.size) (by omega)).trans HBX.out)
              have HL7 := Lib.hid (HB.out.trans (HB7.out.mono (by omega)))
              have hv7 := HO7.out.one
              go_wp2_with fail
              go_roundw
              case rel => exact ⟨k + 1, v7, _, rfl, by go_num, by omega, HR.out, HO7.out, HX7.out, HL7.out⟩
              case measure => simp [intOf] <;> omega
            | false =>
              have HR := Lib.hid (show M = (ps.take (k + 1)).filter (ltP s) by rw [HFT.out, if_neg (by rw [show ltP s (s2, a2, d2, t2) = false from hq]; simp), List.append_nil, HM.out])
              have hc101 : wr.cell? ⟨b, off + k * 4, none⟩ = some (.string s2) := (H.out.below HB.out).cellAt HX.out hlt 0 _ rfl
              go_wp2_with fail
              go_roundw
              case rel => exact ⟨k + 1, v, M, rfl, by go_num, by omega, HR.out, HO.out, HBX.out, HB.out⟩
              case measure => simp [intOf] <;> omega
          · have hd1 : decide ((k : Int) < (n : Int)) = false := decide_eq_false (by omega)
            have HE := Lib.hid (show ps.take k = ps from List.take_of_length_le (by rw [L.out]; omega))
            have HM1 := Lib.hid (show M = ps.filter (ltP s) by rw [HM.out, HE.out])
            have HFL := Lib.hid (show (ps.filter (ltP s)).length ≤ 8 by have := List.length_filter_le (ltP s) ps; have := L.out; omega)
            have hz1 : w.heap.size + 1 ≤ wr.heap.size := by omega
            have HRa := Lib.hid (Below.refl (w.heap.size + 1) wr)
            have hc101 : wr.cell? ⟨w.heap.size, 0, none⟩ = some (.int .i64 a) := by rw [cell_of_row _ _ _ _ _ _ HBX.out]; rfl
            have hc102 : wr.cell? ⟨w.heap.size, 1, none⟩ = some (.int .i64 d) := by rw [cell_of_row _ _ _ _ _ _ HBX.out]; rfl
            have hc103 : wr.cell? ⟨w.heap.size, 2, none⟩ = some (.string t) := by rw [cell_of_row _ _ _ _ _ _ HBX.out]; rfl
            go_wp2_with (at_builtin; refine wpList_appX rfl (.tmp 48) (.tmp 52) 46 140 _ 48 rfl Try.underlying46 info_prB rfl (by omega) (by omega) prC_len prC_one (w.heap.size + 1) wr (HRa.out.alloc hz1 _) (by simp; omega) v _ rfl (HO.out.alloc _) wr.heap.size 1 (s, a, d, t) #[.string s, .int .i64 a, .int .i64 d, .string t] 140 (0, 0) rfl (heap_alloc_new wr _) rfl (by rw [HM1.out]; have := HFL.out; omega) ?_)
            intro v7 w7 HO7 HB7 HZ7 HG7
            clear hc101 hc102 hc103
            have HX7 := Lib.hid ((HB7.out.block (w.heap.size) (by omega)).trans HBX.out)
            have HL7 := Lib.hid (HB.out.trans (HB7.out.mono (by omega)))
            have hv7 := HO7.out.one
            clear hd1
            go_wp2_with fail
            go_loopw [8, 10] (fun vv i wr => ∃ (j : Nat) (v : Value) (M : List Pr), v = vv ∧ i = .int .i64 (j : Int) ∧ j ≤ n ∧ M = (ps.filter (ltP s) ++ [(s, a, d, t)]) ++ (ps.take j).filter (gtP s) ∧ OwX prC 4 140 wr (w.heap.size + 1) v M ∧ wr.heap[w.heap.size]? = some (.cells #[.int .i64 a, .int .i64 d, .string t] 78 (0, 0)) ∧ Below w.heap.size w wr) (fun _ i _ => n - (intOf i).toNat)
            case atStart => exact ⟨0, v7, _, rfl, rfl, Nat.zero_le _, by rw [List.take_zero, List.filter_nil, List.append_nil, HM1.out], HO7.out, HX7.out, HL7.out⟩
            case round =>
              obtain ⟨j, v, M, rfl, rfl, hj, hM, how, hbx, hb⟩ := hrel
              have HM := Lib.hid hM
              clear hM
              have HO2 := Lib.hid how
              have HBX2 := Lib.hid hbx
              have HB2 := Lib.hid hb
              have hv := how.one
              have hCw2 := lt_of_block hbx
              clear how hbx hb
              by_cases hlt2 : j < n
              · have hd1 : decide ((j : Int) < (n : Int)) = true := decide_eq_true (by omega)
                obtain ⟨b, off, hl, rfl, hbb, _⟩ := (H.out.below HB2.out).at hlt2
                have HFT := Lib.hid (filt_take (gtP s) ps j hl)
                have hfl := filt_len (gtP s) ps j
                obtain ⟨y, hy⟩ : ∃ y, ps[j] = y := ⟨_, rfl⟩
                have HX := Lib.hid (show ps[j]? = some y by rw [List.getElem?_eq_getElem hl, hy])
                rw [hy] at HFT
                obtain ⟨s2, a2, d2, t2⟩ := y
                have hi0 : (0 : Int) ≤ (j : Int) := by omega
                clear hy
                rcases leS_cases s2 s with ⟨g1, hg⟩ | ⟨g1, g2, hg⟩ | ⟨g1, g2, hg⟩
                · have HR := Lib.hid (show M = (ps.filter (ltP s) ++ [(s, a, d, t)]) ++ (ps.take (j + 1)).filter (gtP s) by rw [HFT.out, if_neg (by rw [show gtP s (s2, a2, d2, t2) = false from gt_no hg]; simp), List.append_nil, HM.out])
                  have hc101 : wr.cell? ⟨b, off + j * 4, none⟩ = some (.string s2) := (H.out.below HB2.out).cellAt HX.out hlt2 0 _ rfl
                  go_wp2_with fail
                  go_roundw
                  case rel => exact ⟨j + 1, v, M, rfl, by go_num, by omega, HR.out, HO2.out, HBX2.out, HB2.out⟩
                  case measure => simp [intOf] <;> omega
                · have HR := Lib.hid (show M = (ps.filter (ltP s) ++ [(s, a, d, t)]) ++ (ps.take (j + 1)).filter (gtP s) by rw [HFT.out, if_neg (by rw [show gtP s (s2, a2, d2, t2) = false from gt_no hg]; simp), List.append_nil, HM.out])
                  have hc101 : wr.cell? ⟨b, off + j * 4, none⟩ = some (.string s2) := (H.out.below HB2.out).cellAt HX.out hlt2 0 _ rfl
                  go_wp2_with fail
                  go_roundw
                  case rel => exact ⟨j + 1, v, M, rfl, by go_num, by omega, HR.out, HO2.out, HBX2.out, HB2.out⟩
                  case measure => simp [intOf] <;> omega
                · have HR := Lib.hid (show M ++ [(s2, a2, d2, t2)] = (ps.filter (ltP s) ++ [(s, a, d, t)]) ++ (ps.take (j + 1)).filter (gtP s) by rw [HFT.out, if_pos (show gtP s (s2, a2, d2, t2) = true from le_no hg), ← List.append_assoc, HM.out])
                  have hML : M.length ≤ 17 := by rw [HM.out]; rw [List.length_append, List.length_append]; have := HFL.out; simp; omega
                  have hc101 : wr.cell? ⟨b, off + j * 4, none⟩ = some (.string s2) := (H.out.below HB2.out).cellAt HX.out hlt2 0 _ rfl
                  have hc102 : wr.cell? ⟨b, off + j * 4 + 1, none⟩ = some (.int .i64 a2) := (H.out.below HB2.out).cellAt HX.out hlt2 1 _ rfl
                  have hc103 : wr.cell? ⟨b, off + j * 4 + 2, none⟩ = some (.int .i64 d2) := (H.out.below HB2.out).cellAt HX.out hlt2 2 _ rfl
                  have hc104 : wr.cell? ⟨b, off + j * 4 + 3, none⟩ = some (.string t2) := (H.out.below HB2.out).cellAt HX.out hlt2 3 _ rfl
                  have hz1 : w.heap.size + 1 ≤ wr.heap.size := by omega
                  have HRa := Lib.hid (Below.refl (w.heap.size + 1) wr)
                  go_wp2_with (at_builtin; refine wpList_appX rfl (.tmp 67) (.tmp 72) 46 140 _ 48 rfl Try.underlying46 info_prB rfl (by omega) (by omega) prC_len prC_one (w.heap.size + 1) wr (HRa.out.alloc hz1 _) (by simp; omega) v _ rfl (HO2.out.alloc _) wr.heap.size 1 (s2, a2, d2, t2) #[.string s2, .int .i64 a2, .int .i64 d2, .string t2] 140 (0, 0) rfl (heap_alloc_new wr _) rfl (by omega) ?_)
                  intro v7 w7 HO7 HB7 HZ7 HG7
                  clear hc101 hc102 hc103 hc104
                  have HX7 := Lib.hid ((HB7.out.block (w.heap.size) (by omega)).trans HBX2.out)
                  have HL7 := Lib.hid (HB2.out.trans (HB7.out.mono (by omega)))
                  have hv7 := HO7.out.one
                  go_wp2_with fail
                  go_roundw
                  case rel => exact ⟨j + 1, v7, _, rfl, by go_num, by omega, HR.out, HO7.out, HX7.out, HL7.out⟩
                  case measure => simp [intOf] <;> omega
              · have hd1 : decide ((j : Int) < (n : Int)) = false := decide_eq_false (by omega)
                have HE2 := Lib.hid (show ps.take j = ps from List.take_of_length_le (by rw [L.out]; omega))
                go_wp2_with fail
                go_ret2
                exact ⟨v, by first | (rw [HV.out.1]; done) | (rw [HV.out.1]; rfl), by rw [HV.out.2]; have k := HO2.out.mono (B' := w.heap.size) (by omega); rw [HM.out, HE2.out] at k; exact k, HB2.out⟩
end Go.Proofs.Ytdjjabjegmbmaaa

namespace Go.Proofs.Ytdjjabjegmbmaaa
open Go.RowKit Vi

def lbE (ss : List ByteArray) (x : ByteArray) : Int := if nm x = false then 2 else if inB ss x = true then 10 else if 8 ≤ ss.length then 5 else 0
def lbV (ss : List ByteArray) (x : ByteArray) : List ByteArray := if lbE ss x = 0 then withL ss x else []
def ulE (ss : List ByteArray) (x : ByteArray) : Int := if inB ss x = true then 0 else 9
def ulV (ss : List ByteArray) (x : ByteArray) : List ByteArray := if inB ss x = true then onlyL ss [x] else []
def RetT (w : World) (L : List ByteArray) (z : Int) (e : Ending) (w' : World) : Prop := ∃ v, e = .returned (.tuple #[v, .int .i64 z]) ∧ TS w' v L ∧ Below w.heap.size w w'
theorem TS.nil (w : World) : TS w (.slice none 0 0) [] := ⟨none, 0, rfl, ⟨rfl, fun h => by simp at h⟩, Nat.le_refl _, Nat.zero_le _⟩
theorem lb_bad {ss : List ByteArray} {x : ByteArray} (h : nm x = false) : lbE ss x = 2 ∧ lbV ss x = [] := by
  have e : lbE ss x = 2 := by unfold lbE; rw [if_pos h]
  exact ⟨e, by unfold lbV; rw [e]; rfl⟩
theorem lb_in {ss : List ByteArray} {x : ByteArray} (h : nm x = true) (h1 : inB ss x = true) : lbE ss x = 10 ∧ lbV ss x = [] := by
  have e : lbE ss x = 10 := by unfold lbE; rw [if_neg (by rw [h]; simp), if_pos h1]
  exact ⟨e, by unfold lbV; rw [e]; rfl⟩
theorem lb_full {ss : List ByteArray} {x : ByteArray} (h : nm x = true) (h1 : inB ss x = false) (h2 : 8 ≤ ss.length) : lbE ss x = 5 ∧ lbV ss x = [] := by
  have e : lbE ss x = 5 := by unfold lbE; rw [if_neg (by rw [h]; simp), if_neg (by rw [h1]; simp), if_pos h2]
  exact ⟨e, by unfold lbV; rw [e]; rfl⟩
theorem lb_ok {ss : List ByteArray} {x : ByteArray} (h : nm x = true) (h1 : inB ss x = false) (h2 : ¬ 8 ≤ ss.length) : lbE ss x = 0 ∧ lbV ss x = withL ss x := by
  have e : lbE ss x = 0 := by unfold lbE; rw [if_neg (by rw [h]; simp), if_neg (by rw [h1]; simp), if_neg h2]
  exact ⟨e, by unfold lbV; rw [if_pos e]⟩
set_option maxRecDepth 100000 in
set_option maxHeartbeats 2000000 in
theorem elabel_any (A : Option Addr) (n c : Nat) (ss : List ByteArray) (x : ByteArray) (w : World) (h : SlN w A n ss) (hn : n ≤ 1000) (hc : n ≤ c) (hr : Rise ss) (hx : x.size ≤ maxLen) :
    Calls Try.prog 50 #[.slice A n c, .string x] w (RetT w (lbV ss x) (lbE ss x)) := by
  have H := Lib.hid h
  have L := Lib.hid h.1
  have HC := Lib.hid (fun W : World => ncheck_any x W hx)
  have HW := Lib.hid (fun (W : World) (q : SlN W A n ss) => with_all A n c ss x W q (by omega) hc hr)
  clear h hr
  cases hn1 : nm x with
  | false =>
    have HV := Lib.hid (lb_bad (ss := ss) hn1)
    rw [nck_no x hn1] at HC
    clear hn1
    have HB1 := Lib.hid (Below.refl w.heap.size w)
    go_enter Try.func50, Try.ntmps50
    go_wp2_with fail
    refine (HC.out w).mono ?_
    rintro e w' ⟨rfl, rfl⟩
    go_wp2_with fail
    go_ret2
    exact ⟨_, by first | (rw [HV.out.1]; done) | (rw [HV.out.1]; rfl), by rw [HV.out.2]; exact TS.nil _, HB1.out⟩
  | true =>
    have HNM := Lib.hid hn1
    rw [nck_yes x hn1] at HC
    clear hn1
    cases hin : inB ss x with
    | true =>
      have HV := Lib.hid (lb_in HNM.out hin)
      rw [hin] at HW
      clear hin
      have HB1 := Lib.hid (Below.refl w.heap.size w)
      go_enter Try.func50, Try.ntmps50
      go_wp2_with fail
      refine (HC.out w).mono ?_
      rintro e w' ⟨rfl, rfl⟩
      go_wp2_with fail
      refine (HW.out w (H.out.later HB1.out)).mono ?_
      rintro e w1 ⟨v, rfl, hts, hb1⟩
      have HB2 := Lib.hid (HB1.out.trans (hb1.mono (by have := HB1.out.size; simp at this ⊢ <;> omega)))
      clear hb1 HB1 
      have HTS := Lib.hid hts
      clear hts
      go_wp2_with fail
      go_ret2
      exact ⟨_, by first | (rw [HV.out.1]; done) | (rw [HV.out.1]; rfl), by rw [HV.out.2]; exact TS.nil _, HB2.out⟩
    | false =>
      rw [hin] at HW
      have HIN := Lib.hid hin
      clear hin
      by_cases h8 : 8 ≤ n
      · have d8 : decide ((8 : Int) ≤ (n : Int)) = true := decide_eq_true (by omega)
        have HV := Lib.hid (lb_full HNM.out HIN.out (by rw [L.out]; exact h8))
        have HB1 := Lib.hid (Below.refl w.heap.size w)
        go_enter Try.func50, Try.ntmps50
        go_wp2_with fail
        refine (HC.out w).mono ?_
        rintro e w' ⟨rfl, rfl⟩
        go_wp2_with fail
        refine (HW.out w (H.out.later HB1.out)).mono ?_
        rintro e w1 ⟨v, rfl, hts, hb1⟩
        have HB2 := Lib.hid (HB1.out.trans (hb1.mono (by have := HB1.out.size; simp at this ⊢ <;> omega)))
        clear hb1 HB1 
        have HTS := Lib.hid hts
        clear hts
        go_wp2_with fail
        go_ret2
        exact ⟨_, by first | (rw [HV.out.1]; done) | (rw [HV.out.1]; rfl), by rw [HV.out.2]; exact TS.nil _, HB2.out⟩
      · have d8 : decide ((8 : Int) ≤ (n : Int)) = false := decide_eq_false (by omega)
        have HV := Lib.hid (lb_ok HNM.out HIN.out (by rw [L.out]; exact h8))
        have HB1 := Lib.hid (Below.refl w.heap.size w)
        go_enter Try.func50, Try.ntmps50
        go_wp2_with fail
        refine (HC.out w).mono ?_
        rintro e w' ⟨rfl, rfl⟩
        go_wp2_with fail
        refine (HW.out w (H.out.later HB1.out)).mono ?_
        rintro e w1 ⟨v, rfl, hts, hb1⟩
        have HB2 := Lib.hid (HB1.out.trans (hb1.mono (by have := HB1.out.size; simp at this ⊢ <;> omega)))
        clear hb1 HB1 
        have HTS := Lib.hid hts
        clear hts
        go_wp2_with fail
        go_ret2
        exact ⟨v, by first | (rw [HV.out.1]; done) | (rw [HV.out.1]; rfl), by rw [HV.out.2]; exact HTS.out, HB2.out⟩
set_option maxRecDepth 100000 in
set_option maxHeartbeats 2000000 in
theorem rlabel_any (A : Option Addr) (n c : Nat) (ss : List ByteArray) (x : ByteArray) (w : World) (h : SlN w A n ss) (hn : n ≤ 1000) (hc : n ≤ c) (hcm : c ≤ maxLen) (hx : x.size ≤ maxLen) :
    Calls Try.prog 51 #[.slice A n c, .string x] w (RetT w (lbV ss x) (lbE ss x)) := by
  have H := Lib.hid h
  have L := Lib.hid h.1
  have HC := Lib.hid (fun W : World => refIs_any x W hx)
  have HI := Lib.hid (fun (W : World) (q : SlN W A n ss) => refIn_any A n c ss x W q (by omega))
  have HW := Lib.hid (fun (W : World) (q : SlN W A n ss) => refWith_any A n c ss x W q (by omega) hc hcm)
  clear h hcm
  cases hn1 : nm x with
  | false =>
    have HV := Lib.hid (lb_bad (ss := ss) hn1)
    rw [hn1] at HC
    clear hn1
    have HB1 := Lib.hid (Below.refl w.heap.size w)
    go_enter Try.func51, Try.ntmps51
    go_wp2_with fail
    refine (HC.out w).mono ?_
    rintro e w' ⟨rfl, rfl⟩
    go_wp2_with fail
    go_ret2
    exact ⟨_, by first | (rw [HV.out.1]; done) | (rw [HV.out.1]; rfl), by rw [HV.out.2]; exact TS.nil _, HB1.out⟩
  | true =>
    have HNM := Lib.hid hn1
    rw [hn1] at HC
    clear hn1
    cases hin : inB ss x with
    | true =>
      have HV := Lib.hid (lb_in HNM.out hin)
      rw [hin] at HI
      clear hin
      have HB1 := Lib.hid (Below.refl w.heap.size w)
      go_enter Try.func51, Try.ntmps51
      go_wp2_with fail
      refine (HC.out w).mono ?_
      rintro e w' ⟨rfl, rfl⟩
      go_wp2_with fail
      refine (HI.out w (H.out.later HB1.out)).mono ?_
      rintro e w' ⟨rfl, rfl⟩
      go_wp2_with fail
      go_ret2
      exact ⟨_, by first | (rw [HV.out.1]; done) | (rw [HV.out.1]; rfl), by rw [HV.out.2]; exact TS.nil _, HB1.out⟩
    | false =>
      rw [hin] at HI
      have HIN := Lib.hid hin
      clear hin
      by_cases h8 : 8 ≤ n
      · have d8 : decide ((8 : Int) ≤ (n : Int)) = true := decide_eq_true (by omega)
        have HV := Lib.hid (lb_full HNM.out HIN.out (by rw [L.out]; exact h8))
        have HB1 := Lib.hid (Below.refl w.heap.size w)
        go_enter Try.func51, Try.ntmps51
        go_wp2_with fail
        refine (HC.out w).mono ?_
        rintro e w' ⟨rfl, rfl⟩
        go_wp2_with fail
        refine (HI.out w (H.out.later HB1.out)).mono ?_
        rintro e w' ⟨rfl, rfl⟩
        go_wp2_with fail
        go_ret2
        exact ⟨_, by first | (rw [HV.out.1]; done) | (rw [HV.out.1]; rfl), by rw [HV.out.2]; exact TS.nil _, HB1.out⟩
      · have d8 : decide ((8 : Int) ≤ (n : Int)) = false := decide_eq_false (by omega)
        have HV := Lib.hid (lb_ok HNM.out HIN.out (by rw [L.out]; exact h8))
        have HB1 := Lib.hid (Below.refl w.heap.size w)
        go_enter Try.func51, Try.ntmps51
        go_wp2_with fail
        refine (HC.out w).mono ?_
        rintro e w' ⟨rfl, rfl⟩
        go_wp2_with fail
        refine (HI.out w (H.out.later HB1.out)).mono ?_
        rintro e w' ⟨rfl, rfl⟩
        go_wp2_with fail
        refine (HW.out w (H.out.later HB1.out)).mono ?_
        rintro e w1 ⟨v, rfl, hts, hb1⟩
        have HB2 := Lib.hid (HB1.out.trans (hb1.mono (by have := HB1.out.size; simp at this ⊢ <;> omega)))
        clear hb1 HB1 
        have HTS := Lib.hid hts
        clear hts
        go_wp2_with fail
        go_ret2
        exact ⟨v, by first | (rw [HV.out.1]; done) | (rw [HV.out.1]; rfl), by rw [HV.out.2]; exact HTS.out, HB2.out⟩
set_option maxRecDepth 100000 in
set_option maxHeartbeats 2000000 in
theorem eunlabel_any (A : Option Addr) (n c : Nat) (ss : List ByteArray) (x : ByteArray) (w : World) (h : SlN w A n ss) (hn : n ≤ 1000) (hc : n ≤ c) (hr : Rise ss) :
    Calls Try.prog 52 #[.slice A n c, .string x] w (RetT w (ulV ss x) (ulE ss x)) := by
  have H := Lib.hid h
  have HW := Lib.hid (fun (W : World) (q : SlN W A n ss) => without_all A n c ss x W q (by omega) hc hr)
  clear h hr hc
  cases hin : inB ss x with
  | false =>
    have HV := Lib.hid (show ulE ss x = 9 ∧ ulV ss x = [] by unfold ulE ulV; rw [if_neg (by rw [hin]; simp), if_neg (by rw [hin]; simp)]; exact ⟨rfl, rfl⟩)
    rw [hin] at HW
    clear hin
    have HB1 := Lib.hid (Below.refl w.heap.size w)
    go_enter Try.func52, Try.ntmps52
    go_wp2_with fail
    refine (HW.out w (H.out.later HB1.out)).mono ?_
    rintro e w1 ⟨v, rfl, hts, hb1⟩
    have HB2 := Lib.hid (HB1.out.trans (hb1.mono (by have := HB1.out.size; simp at this ⊢ <;> omega)))
    clear hb1 HB1 
    have HTS := Lib.hid hts
    clear hts
    go_wp2_with fail
    go_ret2
    exact ⟨_, by first | (rw [HV.out.1]; done) | (rw [HV.out.1]; rfl), by rw [HV.out.2]; exact TS.nil _, HB2.out⟩
  | true =>
    have HV := Lib.hid (show ulE ss x = 0 ∧ ulV ss x = onlyL ss [x] by unfold ulE ulV; rw [if_pos hin, if_pos hin]; exact ⟨rfl, rfl⟩)
    rw [hin] at HW
    clear hin
    have HB1 := Lib.hid (Below.refl w.heap.size w)
    go_enter Try.func52, Try.ntmps52
    go_wp2_with fail
    refine (HW.out w (H.out.later HB1.out)).mono ?_
    rintro e w1 ⟨v, rfl, hts, hb1⟩
    have HB2 := Lib.hid (HB1.out.trans (hb1.mono (by have := HB1.out.size; simp at this ⊢ <;> omega)))
    clear hb1 HB1 
    have HTS := Lib.hid hts
    clear hts
    go_wp2_with fail
    go_ret2
    exact ⟨v, by first | (rw [HV.out.1]; done) | (rw [HV.out.1]; rfl), by rw [HV.out.2]; exact HTS.out, HB2.out⟩
set_option maxRecDepth 100000 in
set_option maxHeartbeats 2000000 in
theorem runlabel_any (A : Option Addr) (n c : Nat) (ss : List ByteArray) (x : ByteArray) (w : World) (h : SlN w A n ss) (hn : n ≤ 1000) :
    Calls Try.prog 53 #[.slice A n c, .string x] w (RetT w (ulV ss x) (ulE ss x)) := by
  have H := Lib.hid h
  have HI := Lib.hid (fun (W : World) (q : SlN W A n ss) => refIn_any A n c ss x W q (by omega))
  clear h
  cases hin : inB ss x with
  | false =>
    have HV := Lib.hid (show ulE ss x = 9 ∧ ulV ss x = [] by unfold ulE ulV; rw [if_neg (by rw [hin]; simp), if_neg (by rw [hin]; simp)]; exact ⟨rfl, rfl⟩)
    rw [hin] at HI
    clear hin
    have HB1 := Lib.hid (Below.refl w.heap.size w)
    go_enter Try.func53, Try.ntmps53
    go_wp2_with fail
    refine (HI.out w (H.out.later HB1.out)).mono ?_
    rintro e w' ⟨rfl, rfl⟩
    go_wp2_with fail
    go_ret2
    exact ⟨_, by first | (rw [HV.out.1]; done) | (rw [HV.out.1]; rfl), by rw [HV.out.2]; exact TS.nil _, HB1.out⟩
  | true =>
    have HV := Lib.hid (show ulE ss x = 0 ∧ ulV ss x = onlyL ss [x] by unfold ulE ulV; rw [if_pos hin, if_pos hin]; exact ⟨rfl, rfl⟩)
    rw [hin] at HI
    clear hin
    have HB1 := Lib.hid (Below.refl w.heap.size w)
    go_enter Try.func53, Try.ntmps53
    go_wp2_with fail
    refine (HI.out w (H.out.later HB1.out)).mono ?_
    rintro e w' ⟨rfl, rfl⟩
    go_wp2_with fail
    have HF2 := Lib.hid (blk_new w (.cells #[.string x] 9 (0, 0)))
    have HB3 := Lib.hid (HB1.out.alloc HB1.out.size (.cells #[.string x] 9 (0, 0)))
    clear HB1
    refine (refOnly_any A n c ss (some ⟨w.heap.size, 0, none⟩) 1 1 [x] (w.alloc (.cells #[.string x] 9 (0, 0))) ((H.out.later HB3.out)) (sl_one w x) (by omega) (by omega)).mono ?_
    rintro e w1 ⟨v, rfl, hts, hb1⟩
    have HF4 := Lib.hid (blk_below HF2.out hb1)
    have HB5 := Lib.hid (HB3.out.trans (hb1.mono (by have := HB3.out.size; simp at this ⊢ <;> omega)))
    clear hb1 HB3 HF2
    have HTS := Lib.hid hts
    clear hts
    go_wp2_with fail
    go_ret2
    exact ⟨v, by first | (rw [HV.out.1]; done) | (rw [HV.out.1]; rfl), by rw [HV.out.2]; exact HTS.out, HB5.out⟩
end Go.Proofs.Ytdjjabjegmbmaaa

namespace Go.Proofs.Ytdjjabjegmbmaaa.LElemTurns
open Go.RowKit Vi

theorem rd_sl {w w' : World} {A : Option Addr} {n : Nat} {ps : List Pr} (h : RdX prC 4 w A n ps) (hb : Below w.heap.size w w') : RdX prC 4 w' A n ps := h.below hb
theorem setV_len (ps : List Pr) (p : Pr) : (setV ps p).length ≤ 2 * ps.length + 1 := by
  unfold setV
  split
  · unfold setL
    rw [List.length_append, List.length_append]
    have h1 := List.length_filter_le (ltP p.1) ps
    have h2 := List.length_filter_le (gtP p.1) ps
    simp only [List.length_cons, List.length_nil]
    omega
  · simp
theorem usV_len (ps : List Pr) (x : ByteArray) : (usV ps x).length ≤ ps.length := by
  unfold usV
  split
  · rw [List.length_append, List.length_take, List.length_drop]; omega
  · simp
theorem lbV_len (ss : List ByteArray) (x : ByteArray) : (lbV ss x).length ≤ ss.length + 1 := by
  unfold lbV
  split
  · exact with_len ss x
  · simp
theorem ulV_len (ss : List ByteArray) (x : ByteArray) : (ulV ss x).length ≤ ss.length := by
  unfold ulV
  split
  · exact only_len ss [x]
  · simp
structure LS (w : World) (A : Option Addr) (n : Nat) (ss : List ByteArray) : Prop where
  h : SlN w A n ss
theorem LS.below {w w' : World} {A : Option Addr} {n : Nat} {ss : List ByteArray} (h : LS w A n ss) (hb : Below w.heap.size w w') : LS w' A n ss := ⟨h.h.later hb⟩
set_option maxRecDepth 100000 in
set_option maxHeartbeats 16000000 in
theorem walk (A A2 : Option Addr) (n c n2 c2 : Nat) (ss : List ByteArray) (ps : List Pr) (x : ByteArray) (a d : Int) (t : ByteArray) (w : World) (h : LP w A n ss A2 n2 ps) (k : LOk n ss n2 ps) (hc : n ≤ c) (hcm : c ≤ maxLen) (hc2 : n2 ≤ c2) (hx : x.size ≤ maxLen) :
    Calls Try.prog 9 #[.slice A n c, .slice A2 n2 c2, .string x, .agg #[.int .i64 a, .int .i64 d, .string t]] w fun e w' => e = .returned (.bool true) ∧ Below w.heap.size w w' := by
  have H := Lib.hid h
  have L1 := Lib.hid h.l.1
  have L2 := Lib.hid h.p.1
  have hm := k.n
  have hm2 := k.n2
  unfold maxLen at hm hm2
  have HFW := Lib.hid (fun (W : World) (q : LP W A n ss A2 n2 ps) => few25_any A A2 n c n2 c2 ss ps W q k)
  have HRI := Lib.hid (fun (W : World) (q : LP W A n ss A2 n2 ps) => rises_any A n c ss W q.l k.n)
  have HRP := Lib.hid (fun (W : World) (q : LP W A n ss A2 n2 ps) => rprops_any A2 n2 c2 ps W q.p (by omega) k.p)
  clear h k
  have HB1 := Lib.hid (Below.refl w.heap.size w)
  go_enter Try.func9, Try.ntmps9
  have HF2 := Lib.hid (blk_new w (.cells #[.int .i64 a, .int .i64 d, .string t] 78 (0, 0)))
  have HB3 := Lib.hid (HB1.out.alloc HB1.out.size (.cells #[.int .i64 a, .int .i64 d, .string t] 78 (0, 0)))
  clear HB1
  have HQ4 := Lib.hid (H.out.below ((Below.refl _ w).alloc (Nat.le_refl _) (.cells #[.int .i64 a, .int .i64 d, .string t] 78 (0, 0))))
  clear H
  go_wp2_with fail
  refine (HFW.out (w.alloc (.cells #[.int .i64 a, .int .i64 d, .string t] 78 (0, 0))) HQ4.out).mono ?_
  rintro e w1 ⟨b, rfl, hfw, hb1⟩
  have HF5 := Lib.hid (blk_below HF2.out hb1)
  have HB6 := Lib.hid (HB3.out.trans (hb1.mono (by have := HB3.out.size; simp at this ⊢ <;> omega)))
  have HQ7 := Lib.hid (HQ4.out.below hb1)
  clear HQ4
  clear hb1 HB3 HF2
  cases b with
  | false =>
    go_wp2_with fail
    refine (awake25 w1).mono ?_
    rintro e w2 ⟨rfl, hb2⟩
    have HF8 := Lib.hid (blk_below HF5.out hb2)
    have HB9 := Lib.hid (HB6.out.trans (hb2.mono HB6.out.size))
    have HQ10 := Lib.hid (HQ7.out.below hb2)
    clear HQ7
    clear hb2 HB6 HF5
    go_wp2_with fail
    go_ret
    exact ⟨rfl, HB9.out⟩
  | true =>
    obtain ⟨hn20, hm20⟩ := hfw rfl
    clear hfw
    by_cases hx1 : 100 < x.size
    · have dx : decide ((100 : Int) < (x.size : Int)) = true := decide_eq_true (by omega)
      go_wp2_with fail
      refine (awake25 w1).mono ?_
      rintro e w2 ⟨rfl, hb2⟩
      have HF8 := Lib.hid (blk_below HF5.out hb2)
      have HB9 := Lib.hid (HB6.out.trans (hb2.mono HB6.out.size))
      have HQ10 := Lib.hid (HQ7.out.below hb2)
      clear HQ7
      clear hb2 HB6 HF5
      go_wp2_with fail
      go_ret
      exact ⟨rfl, HB9.out⟩
    have dx : decide ((100 : Int) < (x.size : Int)) = false := decide_eq_false (by omega)
    by_cases ht1 : 100 < t.size
    · have dt : decide ((100 : Int) < (t.size : Int)) = true := decide_eq_true (by omega)
      have hc8 : w1.cell? ⟨w.heap.size, 0, none⟩ = some (.int .i64 a) := by rw [cell_of_row _ _ _ _ _ _ HF5.out]; rfl
      have hc9 : w1.cell? ⟨w.heap.size, 1, none⟩ = some (.int .i64 d) := by rw [cell_of_row _ _ _ _ _ _ HF5.out]; rfl
      have hc10 : w1.cell? ⟨w.heap.size, 2, none⟩ = some (.string t) := by rw [cell_of_row _ _ _ _ _ _ HF5.out]; rfl
      go_wp2_with fail
      refine (awake25 w1).mono ?_
      rintro e w2 ⟨rfl, hb2⟩
      clear hc8 hc9 hc10
      have HF11 := Lib.hid (blk_below HF5.out hb2)
      have HB12 := Lib.hid (HB6.out.trans (hb2.mono HB6.out.size))
      have HQ13 := Lib.hid (HQ7.out.below hb2)
      clear HQ7
      clear hb2 HB6 HF5
      go_wp2_with fail
      go_ret
      exact ⟨rfl, HB12.out⟩
    have dt : decide ((100 : Int) < (t.size : Int)) = false := decide_eq_false (by omega)
    cases hri : riseB ss with
    | false =>
      rw [hri] at HRI
      have hc8 : w1.cell? ⟨w.heap.size, 0, none⟩ = some (.int .i64 a) := by rw [cell_of_row _ _ _ _ _ _ HF5.out]; rfl
      have hc9 : w1.cell? ⟨w.heap.size, 1, none⟩ = some (.int .i64 d) := by rw [cell_of_row _ _ _ _ _ _ HF5.out]; rfl
      have hc10 : w1.cell? ⟨w.heap.size, 2, none⟩ = some (.string t) := by rw [cell_of_row _ _ _ _ _ _ HF5.out]; rfl
      go_wp2_with fail
      clear hc8 hc9 hc10
      refine (HRI.out w1 HQ7.out).mono ?_
      rintro e w2 ⟨rfl, hb2⟩
      have HF11 := Lib.hid (blk_below HF5.out hb2)
      have HB12 := Lib.hid (HB6.out.trans (hb2.mono HB6.out.size))
      have HQ13 := Lib.hid (HQ7.out.below hb2)
      clear HQ7
      clear hb2 HB6 HF5
      go_wp2_with fail
      refine (awake25 w2).mono ?_
      rintro e w3 ⟨rfl, hb3⟩
      have HF14 := Lib.hid (blk_below HF11.out hb3)
      have HB15 := Lib.hid (HB12.out.trans (hb3.mono HB12.out.size))
      have HQ16 := Lib.hid (HQ13.out.below hb3)
      clear HQ13
      clear hb3 HB12 HF11
      go_wp2_with fail
      go_ret
      exact ⟨rfl, HB15.out⟩
    | true =>
      rw [hri] at HRI
      have HRS := Lib.hid (rise_chain ss hri)
      clear hri
      obtain ⟨z, hz⟩ : ∃ z, z = prW ps := ⟨_, rfl⟩
      rw [← hz] at HRP
      by_cases hz0 : z = 0
      rotate_left
      · have hz1 : (z != 0) = true := by simpa using hz0
        clear hz hz0
        have hc8 : w1.cell? ⟨w.heap.size, 0, none⟩ = some (.int .i64 a) := by rw [cell_of_row _ _ _ _ _ _ HF5.out]; rfl
        have hc9 : w1.cell? ⟨w.heap.size, 1, none⟩ = some (.int .i64 d) := by rw [cell_of_row _ _ _ _ _ _ HF5.out]; rfl
        have hc10 : w1.cell? ⟨w.heap.size, 2, none⟩ = some (.string t) := by rw [cell_of_row _ _ _ _ _ _ HF5.out]; rfl
        go_wp2_with fail
        clear hc8 hc9 hc10
        refine (HRI.out w1 HQ7.out).mono ?_
        rintro e w2 ⟨rfl, hb2⟩
        have HF11 := Lib.hid (blk_below HF5.out hb2)
        have HB12 := Lib.hid (HB6.out.trans (hb2.mono HB6.out.size))
        have HQ13 := Lib.hid (HQ7.out.below hb2)
        clear HQ7
        clear hb2 HB6 HF5
        go_wp2_with fail
        refine (HRP.out w2 HQ13.out).mono ?_
        rintro e w3 ⟨rfl, hb3⟩
        have HF14 := Lib.hid (blk_below HF11.out hb3)
        have HB15 := Lib.hid (HB12.out.trans (hb3.mono HB12.out.size))
        have HQ16 := Lib.hid (HQ13.out.below hb3)
        clear HQ13
        clear hb3 HB12 HF11
        go_wp2_with fail
        refine (awake25 w3).mono ?_
        rintro e w4 ⟨rfl, hb4⟩
        have HF17 := Lib.hid (blk_below HF14.out hb4)
        have HB18 := Lib.hid (HB15.out.trans (hb4.mono HB15.out.size))
        have HQ19 := Lib.hid (HQ16.out.below hb4)
        clear HQ16
        clear hb4 HB15 HF14
        go_wp2_with fail
        go_ret
        exact ⟨rfl, HB18.out⟩
      have hz1 : (z != 0) = false := by rw [hz0]; rfl
      have hpz : prW ps = 0 := by rw [← hz]; exact hz0
      have hp8 : ps.length ≤ 8 ∧ prE ⟨#[]⟩ ps = 0 := by
        unfold prW at hpz
        split at hpz
        · cases hpz
        · exact ⟨by omega, hpz⟩
      have hn8 : n2 ≤ 8 := by rw [← L2.out]; exact hp8.1
      have hkr := prE_rise hp8.2
      have hrs := HRS.out
      have C1 := Lib.hid (fun (W : World) (q : LP W A n ss A2 n2 ps) => eset_any A2 n2 c2 ps x a d t W q.p hn8 hc2 hkr hx)
      have C2 := Lib.hid (fun (W : World) (q : LP W A n ss A2 n2 ps) => rset_any A2 n2 c2 ps x a d t W q.p hn8 hkr hx)
      have C3 := Lib.hid (fun (W : World) (q : LP W A n ss A2 n2 ps) => eunset_any A2 n2 c2 ps x W q.p hn8 hc2 hkr)
      have C4 := Lib.hid (fun (W : World) (q : LP W A n ss A2 n2 ps) => runset_any A2 n2 c2 ps x W q.p hn8 hc2 hkr)
      have C5 := Lib.hid (fun (W : World) (q : LP W A n ss A2 n2 ps) => eget_any A2 n2 c2 ps x W q.p (by omega) hkr)
      have C6 := Lib.hid (fun (W : World) (q : LP W A n ss A2 n2 ps) => rget_any A2 n2 c2 ps x W q.p (by omega) hkr)
      have C7 := Lib.hid (fun (W : World) (q : LP W A n ss A2 n2 ps) => elabel_any A n c ss x W q.l (by omega) hc hrs hx)
      have C8 := Lib.hid (fun (W : World) (q : LP W A n ss A2 n2 ps) => rlabel_any A n c ss x W q.l (by omega) hc hcm hx)
      have C9 := Lib.hid (fun (W : World) (q : LP W A n ss A2 n2 ps) => eunlabel_any A n c ss x W q.l (by omega) hc hrs)
      have C10 := Lib.hid (fun (W : World) (q : LP W A n ss A2 n2 ps) => runlabel_any A n c ss x W q.l (by omega))
      have y1 := setV_len ps (x, a, d, t)
      have y2 := usV_len ps x
      have y3 := lbV_len ss x
      have y4 := ulV_len ss x
      rw [L2.out] at y1 y2
      rw [L1.out] at y3 y4
      obtain ⟨ga, gd, gt, hgv⟩ : ∃ a d t, getV ps x = (a, d, t) := ⟨_, _, _, rfl⟩
      rw [hgv] at C5 C6
      have C5 : Hid (∀ (W : World) (_ : LP W A n ss A2 n2 ps), Calls Try.prog 47 #[.slice A2 n2 c2, .string x] W fun e w' => e = .returned (.tuple #[.agg #[.int .i64 ga, .int .i64 gd, .string gt], .bool (inP ps x)]) ∧ Below W.heap.size W w') := Lib.hid (fun W q => C5.out W q)
      have C6 : Hid (∀ (W : World) (_ : LP W A n ss A2 n2 ps), Calls Try.prog 48 #[.slice A2 n2 c2, .string x] W fun e w' => e = .returned (.tuple #[.agg #[.int .i64 ga, .int .i64 gd, .string gt], .bool (inP ps x)]) ∧ Below W.heap.size W w') := Lib.hid (fun W q => C6.out W q)
      generalize setV ps (x, a, d, t) = P1 at C1 C2 y1
      generalize setE ps (x, a, d, t) = E1 at C1 C2
      generalize usV ps x = P2 at C3 C4 y2
      generalize usE ps x = E2 at C3 C4
      generalize inP ps x = gb at C5 C6
      generalize lbV ss x = T1 at C7 C8 y3
      generalize lbE ss x = E3 at C7 C8
      generalize ulV ss x = T2 at C9 C10 y4
      generalize ulE ss x = E4 at C9 C10
      obtain ⟨m1, hm1⟩ : ∃ m, m = P1.length := ⟨_, rfl⟩
      obtain ⟨m2, hm2'⟩ : ∃ m, m = P2.length := ⟨_, rfl⟩
      obtain ⟨m3, hm3⟩ : ∃ m, m = T1.length := ⟨_, rfl⟩
      obtain ⟨m4, hm4⟩ : ∃ m, m = T2.length := ⟨_, rfl⟩
      have u1 : m1 ≤ 17 := by omega
      have u2 : m2 ≤ 8 := by omega
      have u3 : m3 ≤ 21 := by omega
      have u4 : m4 ≤ 20 := by omega
      have M1 := Lib.hid hm1
      have M2 := Lib.hid hm2'
      have M3 := Lib.hid hm3
      have M4 := Lib.hid hm4
      have hgs : (gt.toList == gt.toList) = true := by simp
      have hgn : (gt.toList != gt.toList) = false := by simp
      clear hz hz0 hpz hp8 hkr hrs y1 y2 y3 y4 hgv hm1 hm2' hm3 hm4
      have hc8 : w1.cell? ⟨w.heap.size, 0, none⟩ = some (.int .i64 a) := by rw [cell_of_row _ _ _ _ _ _ HF5.out]; rfl
      have hc9 : w1.cell? ⟨w.heap.size, 1, none⟩ = some (.int .i64 d) := by rw [cell_of_row _ _ _ _ _ _ HF5.out]; rfl
      have hc10 : w1.cell? ⟨w.heap.size, 2, none⟩ = some (.string t) := by rw [cell_of_row _ _ _ _ _ _ HF5.out]; rfl
      go_wp2_with fail
      clear hc8 hc9 hc10
      refine (HRI.out w1 HQ7.out).mono ?_
      rintro e w2 ⟨rfl, hb2⟩
      have HF11 := Lib.hid (blk_below HF5.out hb2)
      have HB12 := Lib.hid (HB6.out.trans (hb2.mono HB6.out.size))
      have HQ13 := Lib.hid (HQ7.out.below hb2)
      clear HQ7
      clear hb2 HB6 HF5
      go_wp2_with fail
      refine (HRP.out w2 HQ13.out).mono ?_
      rintro e w3 ⟨rfl, hb3⟩
      have HF14 := Lib.hid (blk_below HF11.out hb3)
      have HB15 := Lib.hid (HB12.out.trans (hb3.mono HB12.out.size))
      have HQ16 := Lib.hid (HQ13.out.below hb3)
      clear HQ13
      clear hb3 HB12 HF11
      have hc17 : w3.cell? ⟨w.heap.size, 0, none⟩ = some (.int .i64 a) := by rw [cell_of_row _ _ _ _ _ _ HF14.out]; rfl
      have hc18 : w3.cell? ⟨w.heap.size, 1, none⟩ = some (.int .i64 d) := by rw [cell_of_row _ _ _ _ _ _ HF14.out]; rfl
      have hc19 : w3.cell? ⟨w.heap.size, 2, none⟩ = some (.string t) := by rw [cell_of_row _ _ _ _ _ _ HF14.out]; rfl
      go_wp2_with fail
      clear hc17 hc18 hc19
      refine (C1.out w3 HQ16.out).mono ?_
      rintro e w4 ⟨vp, rfl, hop, hb4⟩
      have HF20 := Lib.hid (blk_below HF14.out hb4)
      have HB21 := Lib.hid (HB15.out.trans (hb4.mono (by have := HB15.out.size; simp at this ⊢ <;> omega)))
      have HQ22 := Lib.hid (HQ16.out.below hb4)
      clear HQ16
      clear hb4 HB15 HF14
      obtain ⟨Ap, cp, rfl, hrp, _, _⟩ := hop.rd prC_len
      rw [← M1.out] at hrp ⊢
      have HPp := Lib.hid hrp
      clear hop hrp
      have hc23 : w4.cell? ⟨w.heap.size, 0, none⟩ = some (.int .i64 a) := by rw [cell_of_row _ _ _ _ _ _ HF20.out]; rfl
      have hc24 : w4.cell? ⟨w.heap.size, 1, none⟩ = some (.int .i64 d) := by rw [cell_of_row _ _ _ _ _ _ HF20.out]; rfl
      have hc25 : w4.cell? ⟨w.heap.size, 2, none⟩ = some (.string t) := by rw [cell_of_row _ _ _ _ _ _ HF20.out]; rfl
      go_wp2_with fail
      clear hc23 hc24 hc25
      refine (C2.out w4 HQ22.out).mono ?_
      rintro e w5 ⟨vq, rfl, hoq, hb5⟩
      have HF26 := Lib.hid (blk_below HF20.out hb5)
      have HB27 := Lib.hid (HB21.out.trans (hb5.mono (by have := HB21.out.size; simp at this ⊢ <;> omega)))
      have HQ28 := Lib.hid (HQ22.out.below hb5)
      clear HQ22
      have HQ29 := Lib.hid (HPp.out.below hb5)
      clear HPp
      clear hb5 HB21 HF20
      obtain ⟨Aq, cq, rfl, hrq, _, _⟩ := hoq.rd prC_len
      rw [← M1.out] at hrq ⊢
      have HPq := Lib.hid hrq
      clear hoq hrq
      go_wp2_with fail
      refine (C3.out w5 HQ28.out).mono ?_
      rintro e w6 ⟨vr, rfl, hor, hb6⟩
      have HF30 := Lib.hid (blk_below HF26.out hb6)
      have HB31 := Lib.hid (HB27.out.trans (hb6.mono (by have := HB27.out.size; simp at this ⊢ <;> omega)))
      have HQ32 := Lib.hid (HQ28.out.below hb6)
      clear HQ28
      have HQ33 := Lib.hid (HQ29.out.below hb6)
      clear HQ29
      have HQ34 := Lib.hid (HPq.out.below hb6)
      clear HPq
      clear hb6 HB27 HF26
      obtain ⟨Ar, cr, rfl, hrr, _, _⟩ := hor.rd prC_len
      rw [← M2.out] at hrr ⊢
      have HPr := Lib.hid hrr
      clear hor hrr
      go_wp2_with fail
      refine (C4.out w6 HQ32.out).mono ?_
      rintro e w7 ⟨vs, rfl, hos, hb7⟩
      have HF35 := Lib.hid (blk_below HF30.out hb7)
      have HB36 := Lib.hid (HB31.out.trans (hb7.mono (by have := HB31.out.size; simp at this ⊢ <;> omega)))
      have HQ37 := Lib.hid (HQ32.out.below hb7)
      clear HQ32
      have HQ38 := Lib.hid (HQ33.out.below hb7)
      clear HQ33
      have HQ39 := Lib.hid (HQ34.out.below hb7)
      clear HQ34
      have HQ40 := Lib.hid (HPr.out.below hb7)
      clear HPr
      clear hb7 HB31 HF30
      obtain ⟨As, cs, rfl, hrs, _, _⟩ := hos.rd prC_len
      rw [← M2.out] at hrs ⊢
      have HPs := Lib.hid hrs
      clear hos hrs
      go_wp2_with fail
      refine (C5.out w7 HQ37.out).mono ?_
      rintro e w8 ⟨rfl, hb8⟩
      have HF41 := Lib.hid (blk_below HF35.out hb8)
      have HB42 := Lib.hid (HB36.out.trans (hb8.mono HB36.out.size))
      have HQ43 := Lib.hid (HQ37.out.below hb8)
      clear HQ37
      have HQ44 := Lib.hid (HQ38.out.below hb8)
      clear HQ38
      have HQ45 := Lib.hid (HQ39.out.below hb8)
      clear HQ39
      have HQ46 := Lib.hid (HQ40.out.below hb8)
      clear HQ40
      have HQ47 := Lib.hid (HPs.out.below hb8)
      clear HPs
      clear hb8 HB36 HF35
      have hk48 : w.heap.size < w8.heap.size := lt_of_block HF41.out
      have HF49 := Lib.hid (blk_alloc HF41.out (.cells #[.int .i64 ga, .int .i64 gd, .string gt] 78 (0, 0)))
      have HF50 := Lib.hid (blk_new w8 (.cells #[.int .i64 ga, .int .i64 gd, .string gt] 78 (0, 0)))
      have HB51 := Lib.hid (HB42.out.alloc HB42.out.size (.cells #[.int .i64 ga, .int .i64 gd, .string gt] 78 (0, 0)))
      clear HB42
      have HQ52 := Lib.hid (HQ43.out.below ((Below.refl _ w8).alloc (Nat.le_refl _) (.cells #[.int .i64 ga, .int .i64 gd, .string gt] 78 (0, 0))))
      clear HQ43
      have HQ53 := Lib.hid (HQ44.out.below ((Below.refl _ w8).alloc (Nat.le_refl _) (.cells #[.int .i64 ga, .int .i64 gd, .string gt] 78 (0, 0))))
      clear HQ44
      have HQ54 := Lib.hid (HQ45.out.below ((Below.refl _ w8).alloc (Nat.le_refl _) (.cells #[.int .i64 ga, .int .i64 gd, .string gt] 78 (0, 0))))
      clear HQ45
      have HQ55 := Lib.hid (HQ46.out.below ((Below.refl _ w8).alloc (Nat.le_refl _) (.cells #[.int .i64 ga, .int .i64 gd, .string gt] 78 (0, 0))))
      clear HQ46
      have HQ56 := Lib.hid (HQ47.out.below ((Below.refl _ w8).alloc (Nat.le_refl _) (.cells #[.int .i64 ga, .int .i64 gd, .string gt] 78 (0, 0))))
      clear HQ47
      go_wp2_with fail
      refine (C6.out (w8.alloc (.cells #[.int .i64 ga, .int .i64 gd, .string gt] 78 (0, 0))) HQ52.out).mono ?_
      rintro e w9 ⟨rfl, hb9⟩
      have HF57 := Lib.hid (blk_below HF49.out hb9)
      have HF58 := Lib.hid (blk_below HF50.out hb9)
      have HB59 := Lib.hid (HB51.out.trans (hb9.mono HB51.out.size))
      have HQ60 := Lib.hid (HQ52.out.below hb9)
      clear HQ52
      have HQ61 := Lib.hid (HQ53.out.below hb9)
      clear HQ53
      have HQ62 := Lib.hid (HQ54.out.below hb9)
      clear HQ54
      have HQ63 := Lib.hid (HQ55.out.below hb9)
      clear HQ55
      have HQ64 := Lib.hid (HQ56.out.below hb9)
      clear HQ56
      clear hb9 HB51 HF49 HF41 HF50
      have hk65 : w.heap.size < w9.heap.size := lt_of_block HF57.out
      have hk66 : w8.heap.size < w9.heap.size := lt_of_block HF58.out
      have HF67 := Lib.hid (blk_alloc HF57.out (.cells #[.int .i64 ga, .int .i64 gd, .string gt] 78 (0, 0)))
      have HF68 := Lib.hid (blk_alloc HF58.out (.cells #[.int .i64 ga, .int .i64 gd, .string gt] 78 (0, 0)))
      have HF69 := Lib.hid (blk_new w9 (.cells #[.int .i64 ga, .int .i64 gd, .string gt] 78 (0, 0)))
      have HB70 := Lib.hid (HB59.out.alloc HB59.out.size (.cells #[.int .i64 ga, .int .i64 gd, .string gt] 78 (0, 0)))
      clear HB59
      have HQ71 := Lib.hid (HQ60.out.below ((Below.refl _ w9).alloc (Nat.le_refl _) (.cells #[.int .i64 ga, .int .i64 gd, .string gt] 78 (0, 0))))
      clear HQ60
      have HQ72 := Lib.hid (HQ61.out.below ((Below.refl _ w9).alloc (Nat.le_refl _) (.cells #[.int .i64 ga, .int .i64 gd, .string gt] 78 (0, 0))))
      clear HQ61
      have HQ73 := Lib.hid (HQ62.out.below ((Below.refl _ w9).alloc (Nat.le_refl _) (.cells #[.int .i64 ga, .int .i64 gd, .string gt] 78 (0, 0))))
      clear HQ62
      have HQ74 := Lib.hid (HQ63.out.below ((Below.refl _ w9).alloc (Nat.le_refl _) (.cells #[.int .i64 ga, .int .i64 gd, .string gt] 78 (0, 0))))
      clear HQ63
      have HQ75 := Lib.hid (HQ64.out.below ((Below.refl _ w9).alloc (Nat.le_refl _) (.cells #[.int .i64 ga, .int .i64 gd, .string gt] 78 (0, 0))))
      clear HQ64
      go_wp2_with fail
      refine (sprops_yes Ap Aq m1 cp cq P1 (w9.alloc (.cells #[.int .i64 ga, .int .i64 gd, .string gt] 78 (0, 0))) HQ72.out HQ73.out (by omega)).mono ?_
      rintro e w10 ⟨rfl, hb10⟩
      have HF76 := Lib.hid (blk_below HF67.out hb10)
      have HF77 := Lib.hid (blk_below HF68.out hb10)
      have HF78 := Lib.hid (blk_below HF69.out hb10)
      have HB79 := Lib.hid (HB70.out.trans (hb10.mono HB70.out.size))
      have HQ80 := Lib.hid (HQ71.out.below hb10)
      clear HQ71
      have HQ81 := Lib.hid (HQ72.out.below hb10)
      clear HQ72
      have HQ82 := Lib.hid (HQ73.out.below hb10)
      clear HQ73
      have HQ83 := Lib.hid (HQ74.out.below hb10)
      clear HQ74
      have HQ84 := Lib.hid (HQ75.out.below hb10)
      clear HQ75
      clear hb10 HB70 HF67 HF57 HF68 HF58 HF69
      go_wp2_with fail
      refine (sprops_yes Ar As m2 cr cs P2 w10 HQ83.out HQ84.out (by omega)).mono ?_
      rintro e w11 ⟨rfl, hb11⟩
      have HF85 := Lib.hid (blk_below HF76.out hb11)
      have HF86 := Lib.hid (blk_below HF77.out hb11)
      have HF87 := Lib.hid (blk_below HF78.out hb11)
      have HB88 := Lib.hid (HB79.out.trans (hb11.mono HB79.out.size))
      have HQ89 := Lib.hid (HQ80.out.below hb11)
      clear HQ80
      have HQ90 := Lib.hid (HQ81.out.below hb11)
      clear HQ81
      have HQ91 := Lib.hid (HQ82.out.below hb11)
      clear HQ82
      have HQ92 := Lib.hid (HQ83.out.below hb11)
      clear HQ83
      have HQ93 := Lib.hid (HQ84.out.below hb11)
      clear HQ84
      clear hb11 HB79 HF76 HF77 HF78
      have hc94 : w11.cell? ⟨w8.heap.size, 0, none⟩ = some (.int .i64 ga) := by rw [cell_of_row _ _ _ _ _ _ HF86.out]; rfl
      have hc95 : w11.cell? ⟨w8.heap.size, 1, none⟩ = some (.int .i64 gd) := by rw [cell_of_row _ _ _ _ _ _ HF86.out]; rfl
      have hc96 : w11.cell? ⟨w8.heap.size, 2, none⟩ = some (.string gt) := by rw [cell_of_row _ _ _ _ _ _ HF86.out]; rfl
      have hc97 : w11.cell? ⟨w9.heap.size, 0, none⟩ = some (.int .i64 ga) := by rw [cell_of_row _ _ _ _ _ _ HF87.out]; rfl
      have hc98 : w11.cell? ⟨w9.heap.size, 1, none⟩ = some (.int .i64 gd) := by rw [cell_of_row _ _ _ _ _ _ HF87.out]; rfl
      have hc99 : w11.cell? ⟨w9.heap.size, 2, none⟩ = some (.string gt) := by rw [cell_of_row _ _ _ _ _ _ HF87.out]; rfl
      go_wp2_with fail
      clear hc94 hc95 hc96 hc97 hc98 hc99
      clear HQ90
      clear HQ91
      clear HQ92
      clear HQ93
      refine (C7.out w11 HQ89.out).mono ?_
      rintro e w12 ⟨ve, rfl, hoe, hb12⟩
      have HF100 := Lib.hid (blk_below HF85.out hb12)
      have HF101 := Lib.hid (blk_below HF86.out hb12)
      have HF102 := Lib.hid (blk_below HF87.out hb12)
      have HB103 := Lib.hid (HB88.out.trans (hb12.mono (by have := HB88.out.size; simp at this ⊢ <;> omega)))
      have HQ104 := Lib.hid (HQ89.out.below hb12)
      clear HQ89
      clear hb12 HB88 HF85 HF86 HF87
      obtain ⟨Ae, ce, rfl, hre, _, _⟩ := hoe
      rw [← M3.out] at hre ⊢
      have HPe : Hid (LS w12 Ae m3 T1) := Lib.hid ⟨hre⟩
      clear hre
      go_wp2_with fail
      refine (C8.out w12 HQ104.out).mono ?_
      rintro e w13 ⟨vf, rfl, hof, hb13⟩
      have HF105 := Lib.hid (blk_below HF100.out hb13)
      have HF106 := Lib.hid (blk_below HF101.out hb13)
      have HF107 := Lib.hid (blk_below HF102.out hb13)
      have HB108 := Lib.hid (HB103.out.trans (hb13.mono (by have := HB103.out.size; simp at this ⊢ <;> omega)))
      have HQ109 := Lib.hid (HQ104.out.below hb13)
      clear HQ104
      have HQ110 := Lib.hid (HPe.out.below hb13)
      clear HPe
      clear hb13 HB103 HF100 HF101 HF102
      obtain ⟨Af, cf, rfl, hrf, _, _⟩ := hof
      rw [← M3.out] at hrf ⊢
      have HPf : Hid (LS w13 Af m3 T1) := Lib.hid ⟨hrf⟩
      clear hrf
      go_wp2_with fail
      refine (C9.out w13 HQ109.out).mono ?_
      rintro e w14 ⟨vi, rfl, hoi, hb14⟩
      have HF111 := Lib.hid (blk_below HF105.out hb14)
      have HF112 := Lib.hid (blk_below HF106.out hb14)
      have HF113 := Lib.hid (blk_below HF107.out hb14)
      have HB114 := Lib.hid (HB108.out.trans (hb14.mono (by have := HB108.out.size; simp at this ⊢ <;> omega)))
      have HQ115 := Lib.hid (HQ109.out.below hb14)
      clear HQ109
      have HQ116 := Lib.hid (HQ110.out.below hb14)
      clear HQ110
      have HQ117 := Lib.hid (HPf.out.below hb14)
      clear HPf
      clear hb14 HB108 HF105 HF106 HF107
      obtain ⟨Ai, ci, rfl, hri, _, _⟩ := hoi
      rw [← M4.out] at hri ⊢
      have HPi : Hid (LS w14 Ai m4 T2) := Lib.hid ⟨hri⟩
      clear hri
      go_wp2_with fail
      refine (C10.out w14 HQ115.out).mono ?_
      rintro e w15 ⟨vj, rfl, hoj, hb15⟩
      have HF118 := Lib.hid (blk_below HF111.out hb15)
      have HF119 := Lib.hid (blk_below HF112.out hb15)
      have HF120 := Lib.hid (blk_below HF113.out hb15)
      have HB121 := Lib.hid (HB114.out.trans (hb15.mono (by have := HB114.out.size; simp at this ⊢ <;> omega)))
      have HQ122 := Lib.hid (HQ115.out.below hb15)
      clear HQ115
      have HQ123 := Lib.hid (HQ116.out.below hb15)
      clear HQ116
      have HQ124 := Lib.hid (HQ117.out.below hb15)
      clear HQ117
      have HQ125 := Lib.hid (HPi.out.below hb15)
      clear HPi
      clear hb15 HB114 HF111 HF112 HF113
      obtain ⟨Aj, cj, rfl, hrj, _, _⟩ := hoj
      rw [← M4.out] at hrj ⊢
      have HPj : Hid (LS w15 Aj m4 T2) := Lib.hid ⟨hrj⟩
      clear hrj
      go_wp2_with fail
      refine (stexts_yes Ae Af m3 ce cf T1 w15 HQ123.out.h HQ124.out.h (by omega)).mono ?_
      rintro e w16 ⟨rfl, hb16⟩
      have HF126 := Lib.hid (blk_below HF118.out hb16)
      have HF127 := Lib.hid (blk_below HF119.out hb16)
      have HF128 := Lib.hid (blk_below HF120.out hb16)
      have HB129 := Lib.hid (HB121.out.trans (hb16.mono HB121.out.size))
      have HQ130 := Lib.hid (HQ122.out.below hb16)
      clear HQ122
      have HQ131 := Lib.hid (HQ123.out.below hb16)
      clear HQ123
      have HQ132 := Lib.hid (HQ124.out.below hb16)
      clear HQ124
      have HQ133 := Lib.hid (HQ125.out.below hb16)
      clear HQ125
      have HQ134 := Lib.hid (HPj.out.below hb16)
      clear HPj
      clear hb16 HB121 HF118 HF119 HF120
      go_wp2_with fail
      refine (stexts_yes Ai Aj m4 ci cj T2 w16 HQ133.out.h HQ134.out.h (by omega)).mono ?_
      rintro e w17 ⟨rfl, hb17⟩
      have HF135 := Lib.hid (blk_below HF126.out hb17)
      have HF136 := Lib.hid (blk_below HF127.out hb17)
      have HF137 := Lib.hid (blk_below HF128.out hb17)
      have HB138 := Lib.hid (HB129.out.trans (hb17.mono HB129.out.size))
      have HQ139 := Lib.hid (HQ130.out.below hb17)
      clear HQ130
      have HQ140 := Lib.hid (HQ131.out.below hb17)
      clear HQ131
      have HQ141 := Lib.hid (HQ132.out.below hb17)
      clear HQ132
      have HQ142 := Lib.hid (HQ133.out.below hb17)
      clear HQ133
      have HQ143 := Lib.hid (HQ134.out.below hb17)
      clear HQ134
      clear hb17 HB129 HF126 HF127 HF128
      go_wp2_with fail
      refine (awake25 w17).mono ?_
      rintro e w18 ⟨rfl, hb18⟩
      have HF144 := Lib.hid (blk_below HF135.out hb18)
      have HF145 := Lib.hid (blk_below HF136.out hb18)
      have HF146 := Lib.hid (blk_below HF137.out hb18)
      have HB147 := Lib.hid (HB138.out.trans (hb18.mono HB138.out.size))
      have HQ148 := Lib.hid (HQ139.out.below hb18)
      clear HQ139
      have HQ149 := Lib.hid (HQ140.out.below hb18)
      clear HQ140
      have HQ150 := Lib.hid (HQ141.out.below hb18)
      clear HQ141
      have HQ151 := Lib.hid (HQ142.out.below hb18)
      clear HQ142
      have HQ152 := Lib.hid (HQ143.out.below hb18)
      clear HQ143
      clear hb18 HB138 HF135 HF136 HF137
      go_wp2_with fail
      go_ret
      exact ⟨rfl, HB147.out⟩
end Go.Proofs.Ytdjjabjegmbmaaa.LElemTurns
