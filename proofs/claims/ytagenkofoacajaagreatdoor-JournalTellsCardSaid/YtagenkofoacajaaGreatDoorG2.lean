/- Several texts of one family, merged for a claim. Conditions as in its parts. -/
import Derived.Test.YtagenkofoacajaaGreatDoorZb
import Derived.Maps.Own
import Derived.Maps.Views
import Derived.Maps.Keyed
import Derived.Test.YtagenkofoacajaaGreatDoorG1
import Derived.Test.YtagenkofoacajaaGreatDoorPr
import Derived.Lib.AppendZerosOnto
import Derived.Lib.MinMax
import Derived.Laws.MakeOwn
import Derived.Test.YtagenkofoacajaaGreatDoorSr
import Derived.Laws.CopyOwn
namespace Go.Proofs.YtagenkofoacajaaGreatDoor
open Go.RowKit Vi Go.WideMaps Go.Maps

def emI (v : Value) : Option (DataW Nat × List MemPlace) := match v with
  | .agg a => if a.size = 0 then some (.nil, []) else none
  | _ => none
theorem emI_inv {v : Value} {z : DataW Nat × List MemPlace} (h : emI v = some z) : v = .agg #[] := by
  unfold emI at h
  split at h
  · next a =>
    split at h
    · next h0 => rw [Array.size_eq_zero_iff.1 h0]
    · cases h
  · cases h
/-- a set of texts -/
def SetI (w : World) (B : Nat) (ks : List Int) : Prop := ∃ n D, w.ownsMap Tryz.prog 3 emI B n D ∧ n ≤ ks.length ∧ IsMap D ∧ ∀ s : Int, (Lit.int .i64 s).wf = true → has D (.int .i64 s) = ks.any fun x => x == s
theorem SetI.made (w : World) : SetI (w.alloc (.map #[] 0)) w.heap.size [] :=
  ⟨0, .map [], World.ownsMap_made w _ _ _, Nat.le_refl _, isMap_empty, fun _ _ => rfl⟩
theorem SetI.kept {w w' : World} {B : Nat} {ks : List Int} (h : SetI w B ks) (hb : w'.heap[B]? = w.heap[B]?) : SetI w' B ks := by
  obtain ⟨n, D, ⟨es, cl, h1, h2⟩, h3⟩ := h
  exact ⟨n, D, ⟨es, cl, hb.trans h1, h2⟩, h3⟩
theorem SetI.lt {w : World} {B : Nat} {ks : List Int} (h : SetI w B ks) : B < w.heap.size := by
  obtain ⟨n, D, h1, _⟩ := h
  exact h1.lt
end Go.Proofs.YtagenkofoacajaaGreatDoor

namespace Go.Proofs.YtagenkofoacajaaGreatDoor
open Go.RowKit Vi

/-- the sectors when the writes of some numbers are safe -/
def setP (p : Nat → Bool) : Nat → List Wr → List ByteArray → List ByteArray
  | _, [], S => S
  | k, x :: r, S => setP p (k + 1) r (if p k = true then S.set x.1.toNat x.2 else S)
theorem setP_snoc (p : Nat → Bool) (x : Wr) : ∀ (l : List Wr) (k : Nat) (S : List ByteArray), setP p k (l ++ [x]) S = if p (k + l.length) = true then (setP p k l S).set x.1.toNat x.2 else setP p k l S
  | [], _, _ => rfl
  | y :: r, k, S => by
    show setP p (k + 1) (r ++ [x]) _ = _
    rw [setP_snoc p x r]
    show (if p (k + 1 + r.length) = true then _ else _) = if p (k + (r.length + 1)) = true then _ else _
    rw [show k + 1 + r.length = k + (r.length + 1) by omega]
    rfl
theorem setP_len (p : Nat → Bool) : ∀ (l : List Wr) (k : Nat) (S : List ByteArray), (setP p k l S).length = S.length
  | [], _, _ => rfl
  | x :: r, k, S => by
    show (setP p (k + 1) r _).length = _
    rw [setP_len p r]
    split
    · rw [List.length_set]
    · rfl
/-- is a number among those that are kept? -/
def inK (ks : List Int) (k : Nat) : Bool := ks.any fun x => x == (k : Int)
theorem wf_nat (k : Nat) (h : k ≤ 1000000) : (Lit.int .i64 (k : Int)).wf = true := by
  simp [Lit.wf, IntKind.min, IntKind.max, IntKind.bits, IntKind.signed]
  omega
end Go.Proofs.YtagenkofoacajaaGreatDoor

namespace Go.Proofs.YtagenkofoacajaaGreatDoor
open Go.RowKit Vi Go.WideMaps Go.Maps

def inC (n : Int) : List Value := [.int .i64 n]
theorem inC_len (n : Int) : (inC n).length = 1 := rfl
theorem DK.newB {D : Nat} {SS : List ByteArray} {CC : List Wr} {dn : Bool} {ops fu : Int} {w wr : World} (h : DK D SS CC dn ops fu w) (hb : Below w.heap.size w wr) {b : Nat} (q : InD D wr b) : b < w.heap.size := by
  have hD := h.lt
  refine h.new ?_
  rcases q with q | ⟨o, n, c, q⟩ | ⟨o, n, c, q⟩
  · exact .inl q
  · exact .inr (.inl ⟨o, n, c, by rw [← hb.cell (p := ⟨D, 0, none⟩) hD]; exact q⟩)
  · exact .inr (.inr ⟨o, n, c, by rw [← hb.cell (p := ⟨D, 1, none⟩) hD]; exact q⟩)
end Go.Proofs.YtagenkofoacajaaGreatDoor

namespace Go.Proofs.YtagenkofoacajaaGreatDoor
open Go.RowKit

theorem flat_inv {α : Type} {f : α → List Value} {s : Nat} (hf : ∀ x, (f x).length = s) (hs0 : 0 < s) (l : List α) (j : Nat) (u : Value) (h : (flat f l)[j]? = some u) : ∃ (k r : Nat) (x : α), j = k * s + r ∧ l[k]? = some x ∧ (f x)[r]? = some u := by
  have hj := (List.getElem?_eq_some_iff.1 h).1
  rw [flat_len hf] at hj
  have hk : j / s < l.length := (Nat.div_lt_iff_lt_mul hs0).2 hj
  have hr : j % s < s := Nat.mod_lt _ hs0
  have hx : l[j / s]? = some l[j / s] := List.getElem?_eq_getElem hk
  have hu : (f l[j / s])[j % s]? = some ((f l[j / s])[j % s]'(by rw [hf]; exact hr)) := List.getElem?_eq_getElem _
  have e : j / s * s + j % s = j := by rw [Nat.mul_comm]; exact Nat.div_add_mod j s
  have hg := flat_get hf l (j / s) (j % s) _ _ hx hu
  rw [e, h] at hg
  exact ⟨j / s, j % s, _, e.symm, hx, by rw [hu]; exact hg.symm⟩
theorem run_appNil {α : Type} {f : α → List Value} {s : Nat} {w : World} {t e : TypeId} {z : Value} {bytes : Nat} (hu : Tryz.prog.underlying t = some (.slice e)) (hinfo : (Tryz.prog.info? e).map (fun i => (i.zero, i.size, i.bytes)) = some (some z, s, bytes))
    (ty : TypeId) (B : Nat) (v : Value) (l : List α) (hown : OwX f s e w B v l) (c : Nat) :
    (Builtin.append_ #[t, t] ty #[v, .slice none 0 c]).run Tryz.prog w = .ok v w := by
  obtain ⟨i0, hi, _, hz1, _⟩ := info_parts hinfo
  have hu' := run_underlying (P := Tryz.prog) hu
  rcases hown.2 with ⟨rfl, h0⟩ | ⟨g, cap, cur, rfl, _, _, hnc, _⟩
  · simp [Builtin.append_, hu', sizeOf, typeInfo, hi, Builtin.lenOf, Builtin.firstCells]
  · simp [Builtin.append_, hu', sizeOf, typeInfo, hi, Builtin.lenOf, Builtin.firstCells, hnc, storeCells]
theorem run_appXs {α : Type} {f : α → List Value} {s : Nat} {w : World} {t e : TypeId} {z : Value} {bytes : Nat} (hu : Tryz.prog.underlying t = some (.slice e)) (hinfo : (Tryz.prog.info? e).map (fun i => (i.zero, i.size, i.bytes)) = some (some z, s, bytes)) (hz : z.cells.size = s) (hs0 : 0 < s) (hby : bytes ≤ 100)
    (hf : ∀ x, (f x).length = s) (h1 : ∀ x, ∀ u ∈ f x, u.oneCell' = true) (ty : TypeId) (B : Nat) (v : Value) (l : List α) (hown : OwX f s e w B v l)
    (A : Option Addr) (m c : Nat) (ys : List α) (hr : RdX f s w A m ys) (hm : l.length + m ≤ 1000000) (hbase : B ≤ w.heap.size) :
    ∃ v' w', (Builtin.append_ #[t, t] ty #[v, .slice A m c]).run Tryz.prog w = .ok v' w' ∧ OwX f s e w' B v' (l ++ ys) ∧ w.grownBy w' v.ownBlock := by
  have hl := hr.1
  rcases A with _ | ad
  · have h0 : m = 0 := by
      rcases Nat.eq_zero_or_pos m with h0 | h0
      · exact h0
      · obtain ⟨b, off, e, _⟩ := hr.2 h0
        cases e
    subst h0
    have e0 : ys = [] := List.length_eq_zero_iff.1 hl
    subst e0
    exact ⟨v, w, run_appNil hu hinfo ty B v l hown c, by rw [List.append_nil]; exact hown, World.grownBy.refl w _⟩
  · obtain ⟨i0, hi, hz0, hz1, hz2⟩ := info_parts hinfo
    have hmul : (l.length + m) * bytes ≤ 1000000 * 100 := Nat.mul_le_mul hm hby
    have hcells : ∀ j u, (flat f ys)[j]? = some u → w.cell? (ad.add j) = some u := by
      intro j u hj
      obtain ⟨k, r, x, rfl, hx, hu2⟩ := flat_inv hf hs0 ys j u hj
      have hk := (List.getElem?_eq_some_iff.1 hx).1
      obtain ⟨b, off, e1, _, hc⟩ := hr.2 (by omega)
      cases e1
      rw [Addr.add_lit]
      have := hc k x r u hx hu2
      rwa [Nat.add_assoc] at this
    obtain ⟨v', w', hrun, h2, h3, _, _⟩ := run_append_own_at (P := Tryz.prog) w B t ty e i0 z s bytes hu hi hz0 hz1 hz2 hz hs0 v l.length (flat f l) hown ad m c (flat f ys)
      (by rw [flat_len hf, hl]) hcells (fun u hu2 => by
        unfold flat at hu2
        obtain ⟨x, _, hx⟩ := List.mem_flatMap.1 hu2
        exact h1 x u hx) (by unfold maxLen; omega) (by omega) hbase
    refine ⟨v', w', hrun, ?_, h3⟩
    unfold OwX
    rw [List.length_append, flat_app, hl]
    exact h2
theorem wpList_appXs {α : Type} {f : α → List Value} {s : Nat} {ops : Array Oper} {rest : List Oper} {o : Oper} {a : Act} {Q : Exit → Act → World → Prop} {w : World} (hgd : o.guard = none) (sl xo : Operand) (t e : TypeId) (z : Value) (bytes : Nat)
    (ho : o.op = .call { callee := .builtin .append, args := #[sl, xo], argTypes := #[t, t] })
    (hu : Tryz.prog.underlying t = some (.slice e)) (hinfo : (Tryz.prog.info? e).map (fun i => (i.zero, i.size, i.bytes)) = some (some z, s, bytes)) (hz : z.cells.size = s) (hs0 : 0 < s) (hby : bytes ≤ 100)
    (hf : ∀ x, (f x).length = s) (h1 : ∀ x, ∀ u ∈ f x, u.oneCell' = true)
    (B : Nat) (w0 : World) (hb : Below B w0 w) (hB : B ≤ w.heap.size) (v : Value) (l : List α) (hs : a.eval sl = v) (hown : OwX f s e w B v l)
    (A : Option Addr) (m c : Nat) (ys : List α) (hx : a.eval xo = .slice A m c) (hr : RdX f s w A m ys) (hm : l.length + m ≤ 1000000)
    (h : ∀ v' w', Hid (OwX f s e w' B v' (l ++ ys)) → Hid (Below B w0 w') → Hid (B ≤ w'.heap.size) → Hid (w.grownBy w' v.ownBlock) → wpList Tryz.prog ops Q rest (a.put o.dst v') w') : wpList Tryz.prog ops Q (o :: rest) a w := by
  refine wpList_plain hgd fun K hK => ?_
  obtain ⟨v', w', hrun, h2, h3⟩ := run_appXs hu hinfo hz hs0 hby hf h1 o.type B v l hown A m c ys hr hm hB
  unfold Oper.wp execOp
  simp only [ho, resolve, invoke, builtin, Sem.run_bind, Sem.run_pure, Result.andThen_ok, List.map_toArray, List.map_cons, List.map_nil, hs, hx, hrun]
  exact hK _ _ (h v' w' h2 (hb.grown h3 hB (fun k hk => (World.ownsRow.lt hown k hk).1)) (Nat.le_trans hB h3.size) h3)
theorem step_appXs {α : Type} {f : α → List Value} {s : Nat} {ops : Array Oper} {o : Oper} {a : Act} {K : Act → World → Prop} {Q : Exit → Act → World → Prop} {E : Prop} {w : World} (hgd : o.guard = none) (sl xo : Operand) (t e : TypeId) (z : Value) (bytes : Nat)
    (ho : o.op = .call { callee := .builtin .append, args := #[sl, xo], argTypes := #[t, t] })
    (hu : Tryz.prog.underlying t = some (.slice e)) (hinfo : (Tryz.prog.info? e).map (fun i => (i.zero, i.size, i.bytes)) = some (some z, s, bytes)) (hz : z.cells.size = s) (hs0 : 0 < s) (hby : bytes ≤ 100)
    (hf : ∀ x, (f x).length = s) (h1 : ∀ x, ∀ u ∈ f x, u.oneCell' = true)
    (B : Nat) (w0 : World) (hb : Below B w0 w) (hB : B ≤ w.heap.size) (v : Value) (l : List α) (hs : a.eval sl = v) (hown : OwX f s e w B v l)
    (A : Option Addr) (m c : Nat) (ys : List α) (hx : a.eval xo = .slice A m c) (hr : RdX f s w A m ys) (hm : l.length + m ≤ 1000000)
    (h : ∀ v' w', Hid (OwX f s e w' B v' (l ++ ys)) → Hid (Below B w0 w') → Hid (B ≤ w'.heap.size) → Hid (w.grownBy w' v.ownBlock) → K (a.put o.dst v') w') :
    if Region.wanted o (yielded ops a.tmps) = true then Oper.wp Tryz.prog o a w K Q else E := by
  have hw : Region.wanted o (yielded ops a.tmps) = true := by simp [Region.wanted, hgd]
  rw [if_pos hw]
  obtain ⟨v', w', hrun, h2, h3⟩ := run_appXs hu hinfo hz hs0 hby hf h1 o.type B v l hown A m c ys hr hm hB
  unfold Oper.wp execOp
  simp only [ho, resolve, invoke, builtin, Sem.run_bind, Sem.run_pure, Result.andThen_ok, List.map_toArray, List.map_cons, List.map_nil, hs, hx, hrun]
  exact h v' w' h2 (hb.grown h3 hB (fun k hk => (World.ownsRow.lt hown k hk).1)) (Nat.le_trans hB h3.size) h3
theorem OwX.zero {α : Type} {f : α → List Value} {s : Nat} {T : TypeId} {W : World} {p B c : Nat} {cs : Array Value} (h : W.heap[p]? = some (.cells cs T (0, 0))) (hB : B ≤ p) (hc : c ≤ maxLen) (hz : cs.size = c * s) : OwX f s T W B (.slice (some ⟨p, 0, none⟩) 0 c) [] :=
  ⟨by simp [flat], .inr ⟨p, c, cs, rfl, hB, h, Nat.zero_le _, hc, hz, by simp [flat]⟩⟩
theorem RdX.take {α : Type} {f : α → List Value} {s : Nat} {w : World} {A : Option Addr} {n : Nat} {l : List α} (h : RdX f s w A n l) (k : Nat) (hk : k ≤ n) : RdX f s w A k (l.take k) :=
  ⟨by rw [List.length_take, h.1]; omega, fun hp => by
    obtain ⟨b, off, e, hlt, hc⟩ := h.2 (by omega)
    refine ⟨b, off, e, hlt, fun i x j u hx hu => hc i x j u ?_ hu⟩
    rw [List.getElem?_take] at hx
    split at hx
    · exact hx
    · cases hx⟩
/-- the address at which a slice that is cut at its front begins -/
def cutX (s : Nat) (A : Option Addr) (c k : Nat) : Option Addr := if c = k then A else A.map (·.add (k * s))
theorem RdX.drop {α : Type} {f : α → List Value} {s : Nat} {w : World} {A : Option Addr} {n c : Nat} {l : List α} (h : RdX f s w A n l) (k : Nat) (hk : k ≤ n) (hc : n ≤ c) : RdX f s w (cutX s A c k) (n - k) (l.drop k) :=
  ⟨by rw [List.length_drop, h.1], fun hp => by
    obtain ⟨b, off, e, hlt, hcl⟩ := h.2 (by omega)
    subst e
    refine ⟨b, off + k * s, ?_, hlt, fun i x j u hx hu => ?_⟩
    · unfold cutX
      rw [if_neg (by omega)]
      show some (Addr.add ⟨b, off, none⟩ (k * s)) = _
      rw [Addr.add_lit]
    · rw [List.getElem?_drop] at hx
      have := hcl (k + i) x j u hx hu
      rw [Nat.add_mul, ← Nat.add_assoc off] at this
      exact this⟩
end Go.Proofs.YtagenkofoacajaaGreatDoor

namespace Go.Proofs.YtagenkofoacajaaGreatDoor
open Go.RowKit Vi

/-- a row of the call's own is handed back -/
def OwnL {α : Type} (f : α → List Value) (s : Nat) (T : TypeId) (w : World) (L : List α) (e : Ending) (w' : World) : Prop := ∃ v, e = .returned v ∧ OwX f s T w' w.heap.size v L ∧ Below w.heap.size w w'
set_option maxRecDepth 100000 in
set_option maxHeartbeats 800000 in
theorem dclone_st (A : Option Addr) (n c : Nat) (l : List ByteArray) (w : World) (h : RdX stC 1 w A n l) (hn : n ≤ 100000) :
    Calls Tryz.prog 76 #[.slice A n c] w (OwnL stC 1 9 w l) := by
  have q24 : ∀ (w : World) (a : Option Addr) (n c n' c' : Nat), (binOp .eql 39 (.slice a n c) (.slice none n' c')).run Tryz.prog w = .ok (.bool a.isNone) w := fun w a n c n' c' => Lib.run_eql_slice_nil w _ _ a n c n' c' Tryz.underlying39
  have H := Lib.hid h
  rcases A with _ | ad
  · have h0 : l = [] := by
      rcases Nat.eq_zero_or_pos n with h0 | h0
      · exact List.length_eq_zero_iff.1 (by rw [h.1]; exact h0)
      · obtain ⟨b, off, e, _⟩ := h.2 h0
        cases e
    subst h0
    clear h
    go_enter Tryz.func76, Tryz.ntmps76
    go_wp2
    go_ret
    exact ⟨_, rfl, OwX.nil w, Below.refl _ _⟩
  · clear h
    go_enter Tryz.func76, Tryz.ntmps76
    go_wp2_with (at_builtin; refine wpList_appXs rfl _ _ 39 9 _ 16 rfl Tryz.underlying39 info_stA rfl (by omega) (by omega) stC_len stC_one w.heap.size w ((Below.refl _ w).alloc (Nat.le_refl _) _) (by simp) _ [] rfl (OwX.zero (blk_new w _) (Nat.le_refl _) (Nat.zero_le _) rfl) (some ad) n c l rfl (H.out.below ((Below.refl _ w).alloc (Nat.le_refl _) _)) (by simp; omega) ?_)
    intro v1 w1 HO HB HZ HG
    have hv1 := HO.out.one
    go_wp2_with fail
    go_ret
    exact ⟨v1, rfl, HO.out, HB.out⟩
set_option maxRecDepth 100000 in
set_option maxHeartbeats 800000 in
theorem dclone_wr (A : Option Addr) (n c : Nat) (l : List Wr) (w : World) (h : RdX wrC 2 w A n l) (hn : n ≤ 100000) :
    Calls Tryz.prog 77 #[.slice A n c] w (OwnL wrC 2 111 w l) := by
  have q24 : ∀ (w : World) (a : Option Addr) (n c n' c' : Nat), (binOp .eql 40 (.slice a n c) (.slice none n' c')).run Tryz.prog w = .ok (.bool a.isNone) w := fun w a n c n' c' => Lib.run_eql_slice_nil w _ _ a n c n' c' Tryz.underlying40
  have H := Lib.hid h
  rcases A with _ | ad
  · have h0 : l = [] := by
      rcases Nat.eq_zero_or_pos n with h0 | h0
      · exact List.length_eq_zero_iff.1 (by rw [h.1]; exact h0)
      · obtain ⟨b, off, e, _⟩ := h.2 h0
        cases e
    subst h0
    clear h
    go_enter Tryz.func77, Tryz.ntmps77
    go_wp2
    go_ret
    exact ⟨_, rfl, OwX.nil w, Below.refl _ _⟩
  · clear h
    go_enter Tryz.func77, Tryz.ntmps77
    go_wp2_with (at_builtin; refine wpList_appXs rfl _ _ 40 111 _ 24 rfl Tryz.underlying40 info_wrB rfl (by omega) (by omega) wrC_len wrC_one w.heap.size w ((Below.refl _ w).alloc (Nat.le_refl _) _) (by simp) _ [] rfl (OwX.zero (blk_new w _) (Nat.le_refl _) (Nat.zero_le _) rfl) (some ad) n c l rfl (H.out.below ((Below.refl _ w).alloc (Nat.le_refl _) _)) (by simp; omega) ?_)
    intro v1 w1 HO HB HZ HG
    have hv1 := HO.out.one
    go_wp2_with fail
    go_ret
    exact ⟨v1, rfl, HO.out, HB.out⟩
/-- what a copy of an image is -/
def CpP (SS : List ByteArray) (CC : List Wr) (w : World) (e : Ending) (w' : World) : Prop := ∃ A n c A2 n2 c2, e = .returned (.agg #[.slice A n c, .slice A2 n2 c2]) ∧ OwX stC 1 9 w' w.heap.size (.slice A n c) SS ∧ OwX wrC 2 111 w' w.heap.size (.slice A2 n2 c2) CC ∧ Below w.heap.size w w'
theorem info_img : (Tryz.prog.info? 42).map (·.size) = some 2 := by kernel_rfl
set_option maxRecDepth 100000 in
set_option maxHeartbeats 4000000 in
theorem dcopy_any (D : Nat) (sa : Option Addr) (sn sc : Nat) (ca : Option Addr) (cn cc : Nat) (SS : List ByteArray) (CC : List Wr) (w : World) (d0 : w.cell? ⟨D, 0, none⟩ = some (.slice sa sn sc)) (d1 : w.cell? ⟨D, 1, none⟩ = some (.slice ca cn cc)) (h2 : RdX stC 1 w sa sn SS) (h3 : RdX wrC 2 w ca cn CC) (hs : sn ≤ 100000) (hc : cn ≤ 100000) :
    Calls Tryz.prog 53 #[.pointer (some ⟨D, 0, none⟩)] w (CpP SS CC w) := by
  have hDl : D < w.heap.size := World.block_lt_of_cell? w _ d0
  have HB0 := Lib.hid ((Below.refl w.heap.size w).alloc (Nat.le_refl _) (.cells #[.slice none 0 0, .slice none 0 0] 42 (0, 0)))
  have HR0 := Lib.hid (blk_new w (.cells #[.slice none 0 0, .slice none 0 0] 42 (0, 0)))
  have H20 := Lib.hid (h2.below HB0.out)
  have H30 := Lib.hid (h3.below HB0.out)
  have HD0 : Hid ((w.alloc (.cells #[.slice none 0 0, .slice none 0 0] 42 (0, 0))).cell? ⟨D, 0, none⟩ = some (.slice sa sn sc)) := Lib.hid ((HB0.out.cell (p := ⟨D, 0, none⟩) hDl).trans d0)
  have HD1 : Hid ((w.alloc (.cells #[.slice none 0 0, .slice none 0 0] 42 (0, 0))).cell? ⟨D, 1, none⟩ = some (.slice ca cn cc)) := Lib.hid ((HB0.out.cell (p := ⟨D, 1, none⟩) hDl).trans d1)
  clear d0 d1 h2 h3
  go_enter Tryz.func53, Tryz.ntmps53
  go_upto_region 1 with (fail)
  obtain ⟨v, hv⟩ : ∃ v, v = w.alloc (.cells #[.slice none 0 0, .slice none 0 0] 42 (0, 0)) := ⟨_, rfl⟩
  rw [← hv] at HB0 HR0 H20 H30 HD0 HD1
  rw [← hv]
  clear hv
  refine wp_region_L_drew (S := fun _ W => W.cell? ⟨D, 0, none⟩ = some (.slice sa sn sc) ∧ W.cell? ⟨D, 1, none⟩ = some (.slice ca cn cc)) (by kernel_rfl) ⟨HD0.out, HD1.out⟩ (fun hS hC => ?_)
  refine wpAnyL_take (i := 0) (oi := { dst := some 3, op := .move (.tmp 0), type := _, pos := _, after := _, guard := none }) (v := ?_) rfl (by kernel_rfl) (by kernel_rfl) (by kernel_rfl) (fun _ _ _ h => h) (fun _ _ => Iff.rfl) hC (Or.inl ⟨by rfl, ?_⟩) hS (fun hC hS => ?_)
  rotate_left
  · intro W9 hSw; skip; go_simp; try (with_reducible rfl)
  try simp only [Act.put, List.setIfInBounds_toArray, List.set_cons_zero, List.set_cons_succ]
  refine wpAnyL_take (i := 1) (oi := { dst := some 4, op := .nilCheck (.tmp 3), type := _, pos := _, after := _, guard := none }) (v := ?_) rfl (by kernel_rfl) (by kernel_rfl) (by kernel_rfl) (fun _ _ _ h => h) (fun _ _ => Iff.rfl) hC (Or.inl ⟨by rfl, ?_⟩) hS (fun hC hS => ?_)
  rotate_left
  · intro W9 hSw; skip; go_simp; try (with_reducible rfl)
  try simp only [Act.put, List.setIfInBounds_toArray, List.set_cons_zero, List.set_cons_succ]
  refine wpAnyL_take (i := 2) (oi := { dst := some 5, op := .fieldAddr 42 (.tmp 4) 0, type := _, pos := _, after := _, guard := none }) (v := ?_) rfl (by kernel_rfl) (by kernel_rfl) (by kernel_rfl) (fun _ _ _ h => h) (fun _ _ => Iff.rfl) hC (Or.inl ⟨by rfl, ?_⟩) hS (fun hC hS => ?_)
  rotate_left
  · intro W9 hSw; skip; go_simp; try (with_reducible rfl)
  try simp only [Act.put, List.setIfInBounds_toArray, List.set_cons_zero, List.set_cons_succ]
  refine wpAnyL_take (i := 3) (oi := { dst := some 6, op := .load 39 (.tmp 5), type := _, pos := _, after := _, guard := none }) (v := ?_) rfl (by kernel_rfl) (by kernel_rfl) (by kernel_rfl) (fun _ _ _ h => h) (fun _ _ => Iff.rfl) hC (Or.inl ⟨by rfl, ?_⟩) hS (fun hC hS => ?_)
  rotate_left
  · intro W9 hSw; obtain ⟨_, _, _, q0, _⟩ := hSw; go_simp; try (with_reducible rfl)
  try simp only [Act.put, List.setIfInBounds_toArray, List.set_cons_zero, List.set_cons_succ]
  refine wpAnyL_take (i := 5) (oi := { dst := some 8, op := .move (.tmp 0), type := _, pos := _, after := _, guard := none }) (v := ?_) rfl (by kernel_rfl) (by kernel_rfl) (by kernel_rfl) (fun _ _ _ h => h) (fun _ _ => Iff.rfl) hC (Or.inl ⟨by rfl, ?_⟩) hS (fun hC hS => ?_)
  rotate_left
  · intro W9 hSw; skip; go_simp; try (with_reducible rfl)
  try simp only [Act.put, List.setIfInBounds_toArray, List.set_cons_zero, List.set_cons_succ]
  refine wpAnyL_take (i := 6) (oi := { dst := some 9, op := .nilCheck (.tmp 8), type := _, pos := _, after := _, guard := none }) (v := ?_) rfl (by kernel_rfl) (by kernel_rfl) (by kernel_rfl) (fun _ _ _ h => h) (fun _ _ => Iff.rfl) hC (Or.inl ⟨by rfl, ?_⟩) hS (fun hC hS => ?_)
  rotate_left
  · intro W9 hSw; skip; go_simp; try (with_reducible rfl)
  try simp only [Act.put, List.setIfInBounds_toArray, List.set_cons_zero, List.set_cons_succ]
  refine wpAnyL_take (i := 7) (oi := { dst := some 10, op := .fieldAddr 42 (.tmp 9) 1, type := _, pos := _, after := _, guard := none }) (v := ?_) rfl (by kernel_rfl) (by kernel_rfl) (by kernel_rfl) (fun _ _ _ h => h) (fun _ _ => Iff.rfl) hC (Or.inl ⟨by rfl, ?_⟩) hS (fun hC hS => ?_)
  rotate_left
  · intro W9 hSw; skip; go_simp; try (with_reducible rfl)
  try simp only [Act.put, List.setIfInBounds_toArray, List.set_cons_zero, List.set_cons_succ]
  refine wpAnyL_take (i := 8) (oi := { dst := some 11, op := .load 40 (.tmp 10), type := _, pos := _, after := _, guard := none }) (v := ?_) rfl (by kernel_rfl) (by kernel_rfl) (by kernel_rfl) (fun _ _ _ h => h) (fun _ _ => Iff.rfl) hC (Or.inl ⟨by rfl, ?_⟩) hS (fun hC hS => ?_)
  rotate_left
  · intro W9 hSw; obtain ⟨_, _, _, _, q0⟩ := hSw; go_simp; try (with_reducible rfl)
  try simp only [Act.put, List.setIfInBounds_toArray, List.set_cons_zero, List.set_cons_succ]
  refine wpAnyL_ready (rs := [4]) (by kernel_rfl) (by simp) hC ?_
  refine AllReadyL.cons (o := { dst := some 7, op := .call { callee := .value (.func 76), args := #[.tmp 6], argTypes := #[39] }, type := _, pos := _, after := _, guard := none }) rfl (fun K9 hK => ?_) ?_
  · skip
    go_simp
    refine (dclone_st sa sn sc SS _ H20.out.drew hs).mono ?_
    rintro e w1 ⟨v1, rfl, ho1, hb1⟩
    have HB1 := Lib.hid (HB0.out.drew.trans (hb1.mono HB0.out.size))
    have HR1 := Lib.hid (blk_below (show v.drew.heap[w.heap.size]? = _ from HR0.out) hb1)
    have H31 := Lib.hid (H30.out.drew.below hb1)
    have HO1 := Lib.hid (ho1.mono (B' := w.heap.size) HB0.out.size)
    have HD01 : Hid (w1.cell? ⟨D, 0, none⟩ = some (.slice sa sn sc)) := Lib.hid ((hb1.cell (p := ⟨D, 0, none⟩) (by have := HB0.out.size; show D < v.heap.size; omega)).trans HD0.out)
    have HD11 : Hid (w1.cell? ⟨D, 1, none⟩ = some (.slice ca cn cc)) := Lib.hid ((hb1.cell (p := ⟨D, 1, none⟩) (by have := HB0.out.size; show D < v.heap.size; omega)).trans HD1.out)
    obtain ⟨A1, n1, c1, rfl⟩ := HO1.out.sl3
    clear ho1 hb1
    refine hK _ _ ⟨HD01.out, HD11.out⟩ (fun hC => ?_)
    clear hK K9
    try simp only [Act.put, List.setIfInBounds_toArray, List.set_cons_zero, List.set_cons_succ]
    refine wpAnyL_ready (rs := [9]) (by kernel_rfl) (by simp) hC ?_
    refine AllReadyL.cons (o := { dst := some 12, op := .call { callee := .value (.func 77), args := #[.tmp 11], argTypes := #[40] }, type := _, pos := _, after := _, guard := none }) rfl (fun K9 hK => ?_) ?_
    · skip
      go_simp
      refine (dclone_wr ca cn cc CC _ H31.out hc).mono ?_
      rintro e w2 ⟨v2, rfl, ho2, hb2⟩
      have HB2 := Lib.hid (HB1.out.trans (hb2.mono HB1.out.size))
      have HR2 := Lib.hid (blk_below HR1.out hb2)
      have HO12 := Lib.hid (HO1.out.kept hb2)
      have HO2 := Lib.hid (ho2.mono (B' := w.heap.size) HB1.out.size)
      have HD02 : Hid (w2.cell? ⟨D, 0, none⟩ = some (.slice sa sn sc)) := Lib.hid ((hb2.cell (p := ⟨D, 0, none⟩) (by have := HB1.out.size; show D < w1.heap.size; omega)).trans HD01.out)
      have HD12 : Hid (w2.cell? ⟨D, 1, none⟩ = some (.slice ca cn cc)) := Lib.hid ((hb2.cell (p := ⟨D, 1, none⟩) (by have := HB1.out.size; show D < w1.heap.size; omega)).trans HD11.out)
      obtain ⟨A2, n2, c2, rfl⟩ := HO2.out.sl3
      clear ho2 hb2
      refine hK _ _ ⟨HD02.out, HD12.out⟩ (fun hC => ?_)
      clear hK K9
      try simp only [Act.put, List.setIfInBounds_toArray, List.set_cons_zero, List.set_cons_succ]
      refine wpAnyL_take (i := 10) (oi := { dst := some 13, op := .build 42 #[(0, .tmp 7), (1, .tmp 12)], type := _, pos := _, after := _, guard := none }) (v := ?_) rfl (by kernel_rfl) (by kernel_rfl) (by kernel_rfl) (fun _ _ _ h => h) (fun _ _ => Iff.rfl) hC (Or.inl ⟨by rfl, ?_⟩) ⟨HD02.out, HD12.out⟩ (fun hC hS => ?_)
      rotate_left
      · intro W9 hSw; skip; go_simp; try (with_reducible rfl)
      try simp only [Act.put, List.setIfInBounds_toArray, List.set_cons_zero, List.set_cons_succ]
      refine wpAnyL_ready (rs := [11]) (by kernel_rfl) (by simp) hC ?_
      refine AllReadyL.cons (o := { dst := none, op := .store 42 (.tmp 2) (.tmp 13), type := _, pos := _, after := _, guard := none }) rfl (fun K9 hK => ?_) ?_
      · skip
        have y0 : w2.cell? ⟨w.heap.size, 0, none⟩ = some (.slice none 0 0) := (cell_of_row _ _ 0 _ _ _ HR2.out).trans rfl
        have y1 : w2.cell? ⟨w.heap.size, 1, none⟩ = some (.slice none 0 0) := (cell_of_row _ _ 1 _ _ _ HR2.out).trans rfl
        have f0 : w2.frozen? ⟨w.heap.size, 0, none⟩ = false := frozen_of_row _ _ _ _ _ HR2.out
        have f1 : w2.frozen? ⟨w.heap.size, 1, none⟩ = false := frozen_of_row _ _ _ _ _ HR2.out
        have hDn : ¬ D = w.heap.size := by omega
        go_simp
        have HK := Lib.hid (((KK.refl [w.heap.size] w2).set (b := w.heap.size) (by simp) 0 (.slice A1 n1 c1)).set (b := w.heap.size) (by simp) 1 (.slice A2 n2 c2))
        have HR3 := Lib.hid (show ((w2.setCell ⟨w.heap.size, 0, none⟩ (.slice A1 n1 c1)).setCell ⟨w.heap.size, 1, none⟩ (.slice A2 n2 c2)).heap[w.heap.size]? = some (.cells #[.slice A1 n1 c1, .slice A2 n2 c2] 42 (0, 0)) by have q := heap_setCell_at (i := 1) (u := .slice A2 n2 c2) (heap_setCell_at (i := 0) (u := .slice A1 n1 c1) HR2.out); exact q)
        have HO13 := Lib.hid (HO12.out.kkD HK.out HR2.out (by decide))
        have HO23 := Lib.hid (HO2.out.kkD HK.out HR2.out (by decide))
        have HB3 := Lib.hid (HK.out.below HB2.out (fun b hb => by obtain rfl : b = w.heap.size := (by simpa using hb); exact Nat.le_refl _) HB2.out.size)
        have z0 := (World.cell?_of_block (a := ⟨D, 0, none⟩) (HK.out.block D (by have := HB2.out.size; omega) (by simpa using hDn))).trans HD02.out
        have z1 := (World.cell?_of_block (a := ⟨D, 1, none⟩) (HK.out.block D (by have := HB2.out.size; omega) (by simpa using hDn))).trans HD12.out
        refine hK _ _ ⟨z0, z1⟩ (fun hC => ?_)
        clear hK K9
        try simp only [Act.put, List.setIfInBounds_toArray, List.set_cons_zero, List.set_cons_succ]
        refine wpAnyL_done (by kernel_rfl) ?_ _
        go_wp2_with fail
        refine bodyPost_ret (results_cY rfl _ _ w.heap.size #[.slice A1 n1 c1, .slice A2 n2 c2] rfl (run_loadVar_row _ w.heap.size 42 42 _ (0, 0) _ HR3.out Tryz.underlying42 rfl (by kernel_rfl))) rfl ?_
        exact ⟨A1, n1, c1, A2, n2, c2, rfl, HO13.out, HO23.out, HB3.out⟩
      exact AllReadyL.nil
    exact AllReadyL.nil
  exact AllReadyL.nil
end Go.Proofs.YtagenkofoacajaaGreatDoor

namespace Go.Proofs.YtagenkofoacajaaGreatDoor
open Go.RowKit Vi

end Go.Proofs.YtagenkofoacajaaGreatDoor

namespace Go.Proofs.YtagenkofoacajaaGreatDoor
open Go.RowKit Vi

/-- an index, or one below 0: is there one? -/
def IdxP (b : Bool) (w : World) (e : Ending) (w' : World) : Prop := ∃ r : Int, e = .returned (.int .i64 r) ∧ decide (0 ≤ r) = b ∧ Below w.heap.size w w'
def RetBl (b : Bool) (w : World) (e : Ending) (w' : World) : Prop := e = .returned (.bool b) ∧ Below w.heap.size w w'
/-- a text is no sector -/
def badS (s : ByteArray) : Bool := !decide (s.size = 128)
/-- a write may not be -/
def badW (n : Nat) (x : Wr) : Bool := dckE n x.1 x.2 != 0
theorem any_snocF {α : Type} (p : α → Bool) (l : List α) (k : Nat) (hk : k < l.length) : (l.take (k + 1)).any p = ((l.take k).any p || p l[k]) := by
  rw [List.take_succ_eq_append_getElem hk, List.any_append]
  simp
theorem any_at {α : Type} (p : α → Bool) (l : List α) (k : Nat) (hk : k < l.length) (h : p l[k] = true) : l.any p = true := List.any_eq_true.2 ⟨_, List.getElem_mem hk, h⟩
set_option maxRecDepth 100000 in
theorem mb1_any (s : ByteArray) (w : World) : Calls Tryz.prog 72 #[.string s] w fun e w' => e = .returned (.bool (badS s)) ∧ w = w' := by
  have H := dsec_any s w
  have HR := Lib.hid (show (!decide (s.size = 128)) = badS s from rfl)
  obtain ⟨b, hb⟩ : ∃ b, b = decide (s.size = 128) := ⟨_, rfl⟩
  rw [← hb] at H HR
  have H := Lib.hid H
  clear hb
  cases b
  all_goals
    go_enter Tryz.func72, Tryz.ntmps72
    go_wp2_with fail
    refine H.out.mono ?_
    rintro e w' ⟨rfl, rfl⟩
    go_wp2_with fail
    go_ret
    exact ⟨dk_retB HR.out, rfl⟩
set_option maxRecDepth 100000 in
theorem mb2_any (X Q : Nat) (sa : Option Addr) (sn sc : Nat) (x : Wr) (w : World) (hq : w.cell? ⟨Q, 0, none⟩ = some (.pointer (some ⟨X, 0, none⟩))) (hx : w.cell? ⟨X, 0, none⟩ = some (.slice sa sn sc)) :
    Calls Tryz.prog 75 #[.agg #[.int .i64 x.1, .string x.2], .pointer (some ⟨Q, 0, none⟩)] w (RetBl (badW sn x) w) := by
  obtain ⟨at0, s⟩ := x
  obtain ⟨o1, ho1⟩ : ∃ o : Obj, o = .cells #[.int .i64 at0, .string s] 111 (0, 0) := ⟨_, rfl⟩
  have HB0 := Lib.hid ((Below.refl w.heap.size w).alloc (Nat.le_refl _) o1)
  have q0 : (w.alloc o1).cell? ⟨Q, 0, none⟩ = some (.pointer (some ⟨X, 0, none⟩)) := (HB0.out.cell (p := ⟨Q, 0, none⟩) (World.block_lt_of_cell? w _ hq)).trans hq
  have x0 : (w.alloc o1).cell? ⟨X, 0, none⟩ = some (.slice sa sn sc) := (HB0.out.cell (p := ⟨X, 0, none⟩) (World.block_lt_of_cell? w _ hx)).trans hx
  have H := dcheck_any X sa sn sc at0 s _ x0
  have HR := Lib.hid (show (dckE sn at0 s != 0) = badW sn (at0, s) from rfl)
  obtain ⟨z, hz⟩ : ∃ z, z = dckE sn at0 s := ⟨_, rfl⟩
  rw [← hz] at H HR
  have H := Lib.hid H
  clear hz x0 hx
  subst ho1
  go_enter Tryz.func75, Tryz.ntmps75
  go_wp2_with fail
  refine H.out.mono ?_
  rintro e w' ⟨rfl, rfl⟩
  go_wp2_with fail
  go_ret
  exact ⟨dk_retB HR.out, HB0.out⟩
set_option maxRecDepth 100000 in
set_option maxHeartbeats 1000000 in
theorem dix_st (A : Option Addr) (n c : Nat) (l : List ByteArray) (w : World) (h : RdX stC 1 w A n l) (hn : n ≤ 100000) :
    Calls Tryz.prog 93 #[.slice A n c, .func (.func 72) #[] #[]] w (IdxP (l.any badS) w) := by
  have H := Lib.hid h
  clear h
  go_enter Tryz.func93, Tryz.ntmps93
  go_wp2_with fail
  go_loopw [5, 8] (fun _ i wr => ∃ k : Nat, i = .int .i64 (k : Int) ∧ k ≤ n ∧ Hid ((l.take k).any badS = false) ∧ Below w.heap.size w wr) (fun _ i _ => n - (intOf i).toNat)
  case atStart => exact ⟨0, rfl, Nat.zero_le _, Lib.hid rfl, Below.refl _ _⟩
  case round =>
    obtain ⟨k, rfl, hk, HN, hb⟩ := hrel
    have HB := Lib.hid hb
    clear hb
    by_cases hlt : k < n
    · have hd1 : decide ((k : Int) < (n : Int)) = true := decide_eq_true (by omega)
      have hi0 : (0 : Int) ≤ (k : Int) := by omega
      obtain ⟨b, off, hl2, rfl, hbb, hcell⟩ := (H.out.below HB.out).at hlt
      have HT := Lib.hid (any_snocF badS l k hl2)
      have HA := Lib.hid (any_at badS l k hl2)
      obtain ⟨x, hx⟩ : ∃ x, x = l[k] := ⟨_, rfl⟩
      rw [← hx] at HT HA
      have c0 := hcell 0 (.string l[k]) rfl
      rw [← hx, Nat.mul_one, Nat.add_zero] at c0
      clear hcell hx
      obtain ⟨z, hz⟩ : ∃ z, z = badS x := ⟨_, rfl⟩
      rw [← hz] at HT HA
      have HC := of_same (mb1_any x wr)
      rw [← hz] at HC
      have HC := Lib.hid HC
      clear hz
      go_wp2_with fail
      refine HC.out.mono ?_
      rintro e w1 ⟨rfl, hb1⟩
      have HB1 := Lib.hid (HB.out.trans (hb1.mono HB.out.size))
      clear hb1
      cases z with
      | true =>
        go_wp2_with fail
        go_ret
        exact ⟨(k : Int), rfl, by rw [HA.out (by first | rfl | trivial)]; exact decide_eq_true (by omega), HB1.out⟩
      | false =>
        go_wp2_with fail
        go_roundw
        case rel => exact ⟨k + 1, by go_num, by omega, Lib.hid (by rw [HT.out, HN.out]; rfl), HB1.out⟩
        case measure => simp [intOf] <;> omega
    · have hd1 : decide ((k : Int) < (n : Int)) = false := decide_eq_false (by omega)
      have HE := Lib.hid (show l.take k = l from List.take_of_length_le (by have := H.out.1; omega))
      go_wp2_with fail
      go_ret
      exact ⟨-1, rfl, by rw [← HE.out, HN.out]; rfl, HB.out⟩
set_option maxRecDepth 100000 in
theorem dix_stC (A : Option Addr) (n c : Nat) (l : List ByteArray) (w : World) (h : RdX stC 1 w A n l) (hn : n ≤ 100000) :
    Calls Tryz.prog 71 #[.slice A n c, .func (.func 72) #[] #[]] w (RetBl (l.any badS) w) := by
  have HC := Lib.hid (dix_st A n c l w h hn)
  clear h
  go_enter Tryz.func71, Tryz.ntmps71
  go_wp2_with fail
  refine HC.out.mono ?_
  rintro e w1 ⟨r, rfl, hr, hb1⟩
  have HB1 := Lib.hid hb1
  have HR := Lib.hid hr
  clear hb1 hr
  go_wp2_with fail
  go_ret
  exact ⟨dk_retB HR.out, HB1.out⟩
set_option maxRecDepth 100000 in
set_option maxHeartbeats 1000000 in
theorem dix_wr (X Q : Nat) (sa : Option Addr) (sn sc : Nat) (A : Option Addr) (n c : Nat) (l : List Wr) (w : World) (h : RdX wrC 2 w A n l) (hn : n ≤ 100000) (hq : w.cell? ⟨Q, 0, none⟩ = some (.pointer (some ⟨X, 0, none⟩))) (hx : w.cell? ⟨X, 0, none⟩ = some (.slice sa sn sc)) :
    Calls Tryz.prog 94 #[.slice A n c, .func (.func 75) #[] #[.pointer (some ⟨Q, 0, none⟩)]] w (IdxP (l.any (badW sn)) w) := by
  have H := Lib.hid h
  have HQ := Lib.hid hq
  have HX := Lib.hid hx
  have hql := World.block_lt_of_cell? w _ hq
  have hxl := World.block_lt_of_cell? w _ hx
  clear hq hx
  clear h
  go_enter Tryz.func94, Tryz.ntmps94
  go_wp2_with fail
  go_loopw [5, 8] (fun _ i wr => ∃ k : Nat, i = .int .i64 (k : Int) ∧ k ≤ n ∧ Hid ((l.take k).any (badW sn) = false) ∧ Below w.heap.size w wr) (fun _ i _ => n - (intOf i).toNat)
  case atStart => exact ⟨0, rfl, Nat.zero_le _, Lib.hid rfl, Below.refl _ _⟩
  case round =>
    obtain ⟨k, rfl, hk, HN, hb⟩ := hrel
    have HB := Lib.hid hb
    clear hb
    by_cases hlt : k < n
    · have hd1 : decide ((k : Int) < (n : Int)) = true := decide_eq_true (by omega)
      have hi0 : (0 : Int) ≤ (k : Int) := by omega
      obtain ⟨b, off, hl2, rfl, hbb, hcell⟩ := (H.out.below HB.out).at hlt
      have HT := Lib.hid (any_snocF (badW sn) l k hl2)
      have HA := Lib.hid (any_at (badW sn) l k hl2)
      obtain ⟨x, hx⟩ : ∃ x, x = l[k] := ⟨_, rfl⟩
      rw [← hx] at HT HA
      have c0 := hcell 0 (.int .i64 l[k].1) rfl
      have c1 := hcell 1 (.string l[k].2) rfl
      rw [← hx] at c0 c1
      rw [Nat.add_zero] at c0
      clear hcell hx
      obtain ⟨z, hz⟩ : ∃ z, z = (badW sn) x := ⟨_, rfl⟩
      rw [← hz] at HT HA
      have HC := mb2_any X Q sa sn sc x wr ((HB.out.cell (p := ⟨Q, 0, none⟩) hql).trans HQ.out) ((HB.out.cell (p := ⟨X, 0, none⟩) hxl).trans HX.out)
      rw [← hz] at HC
      have HC := Lib.hid HC
      clear hz
      go_wp2_with fail
      refine HC.out.mono ?_
      rintro e w1 ⟨rfl, hb1⟩
      have HB1 := Lib.hid (HB.out.trans (hb1.mono HB.out.size))
      clear hb1
      cases z with
      | true =>
        go_wp2_with fail
        go_ret
        exact ⟨(k : Int), rfl, by rw [HA.out (by first | rfl | trivial)]; exact decide_eq_true (by omega), HB1.out⟩
      | false =>
        go_wp2_with fail
        go_roundw
        case rel => exact ⟨k + 1, by go_num, by omega, Lib.hid (by rw [HT.out, HN.out]; rfl), HB1.out⟩
        case measure => simp [intOf] <;> omega
    · have hd1 : decide ((k : Int) < (n : Int)) = false := decide_eq_false (by omega)
      have HE := Lib.hid (show l.take k = l from List.take_of_length_le (by have := H.out.1; omega))
      go_wp2_with fail
      go_ret
      exact ⟨-1, rfl, by rw [← HE.out, HN.out]; rfl, HB.out⟩
set_option maxRecDepth 100000 in
theorem dix_wrC (X Q : Nat) (sa : Option Addr) (sn sc : Nat) (A : Option Addr) (n c : Nat) (l : List Wr) (w : World) (h : RdX wrC 2 w A n l) (hn : n ≤ 100000) (hq : w.cell? ⟨Q, 0, none⟩ = some (.pointer (some ⟨X, 0, none⟩))) (hx : w.cell? ⟨X, 0, none⟩ = some (.slice sa sn sc)) :
    Calls Tryz.prog 74 #[.slice A n c, .func (.func 75) #[] #[.pointer (some ⟨Q, 0, none⟩)]] w (RetBl (l.any (badW sn)) w) := by
  have HC := Lib.hid (dix_wr X Q sa sn sc A n c l w h hn hq hx)
  clear h
  go_enter Tryz.func74, Tryz.ntmps74
  go_wp2_with fail
  refine HC.out.mono ?_
  rintro e w1 ⟨r, rfl, hr, hb1⟩
  have HB1 := Lib.hid hb1
  have HR := Lib.hid hr
  clear hb1 hr
  go_wp2_with fail
  go_ret
  exact ⟨dk_retB HR.out, HB1.out⟩
/-- may an image be? -/
def mayI (SS : List ByteArray) (CC : List Wr) : Bool := decide (16 ≤ (SS.length : Int) ∧ (SS.length : Int) ≤ 4096) && (!SS.any badS && (decide (CC.length ≤ 4096) && !CC.any (badW SS.length)))
set_option maxRecDepth 100000 in
set_option maxHeartbeats 1000000 in
theorem dmay_any (X : Nat) (sa : Option Addr) (sc : Nat) (ca : Option Addr) (cc : Nat) (SS : List ByteArray) (CC : List Wr) (w : World) (d0 : w.cell? ⟨X, 0, none⟩ = some (.slice sa SS.length sc)) (d1 : w.cell? ⟨X, 1, none⟩ = some (.slice ca CC.length cc)) (h2 : RdX stC 1 w sa SS.length SS) (h3 : RdX wrC 2 w ca CC.length CC) (hs : SS.length ≤ 100000) (hc : CC.length ≤ 100000) :
    Calls Tryz.prog 52 #[.pointer (some ⟨X, 0, none⟩)] w (RetBl (mayI SS CC) w) := by
  have hXl : X < w.heap.size := World.block_lt_of_cell? w _ d0
  have HB0 := Lib.hid ((Below.refl w.heap.size w).alloc (Nat.le_refl _) (.cells #[.pointer (some ⟨X, 0, none⟩)] 113 (0, 0)))
  have HQ0 := Lib.hid (blk_new w (.cells #[.pointer (some ⟨X, 0, none⟩)] 113 (0, 0)))
  have HD0 := Lib.hid d0
  have HD1 := Lib.hid d1
  have H2 := Lib.hid h2
  have H3 := Lib.hid h3
  obtain ⟨v, hv⟩ : ∃ v, v = w.alloc (.cells #[.pointer (some ⟨X, 0, none⟩)] 113 (0, 0)) := ⟨_, rfl⟩
  have HV := Lib.hid hv
  rw [← hv] at HB0 HQ0
  have HZ := Lib.hid (fun W : World => dsize_any (SS.length : Int) W)
  clear d0 d1 h2 h3 hv
  go_enter Tryz.func52, Tryz.ntmps52
  go_upto_region 1 with (fail)
  rw [← HV.out]
  have q0 : v.cell? ⟨w.heap.size, 0, none⟩ = some (.pointer (some ⟨X, 0, none⟩)) := (cell_of_row _ _ 0 _ _ _ HQ0.out).trans rfl
  have x0 : v.cell? ⟨X, 0, none⟩ = some (.slice sa SS.length sc) := (HB0.out.cell (p := ⟨X, 0, none⟩) hXl).trans HD0.out
  have x1 : v.cell? ⟨X, 1, none⟩ = some (.slice ca CC.length cc) := (HB0.out.cell (p := ⟨X, 1, none⟩) hXl).trans HD1.out
  cases hA : decide (16 ≤ (SS.length : Int) ∧ (SS.length : Int) ≤ 4096) with
  | false =>
    have HR := Lib.hid (show false = mayI SS CC by unfold mayI; rw [hA]; rfl)
    rw [hA] at HZ
    clear hA
    go_wp2_with fail
    refine (HZ.out _).mono ?_
    rintro e w' ⟨rfl, rfl⟩
    go_wp2_with fail
    go_ret
    exact ⟨dk_retB HR.out, HB0.out⟩
  | true =>
    rw [hA] at HZ
    have HA := Lib.hid hA
    have HC := Lib.hid (dix_stC sa SS.length sc SS v (H2.out.below HB0.out) hs)
    clear hA
    go_wp2_with fail
    refine (HZ.out _).mono ?_
    rintro e w' ⟨rfl, rfl⟩
    go_wp2_with fail
    refine HC.out.mono ?_
    rintro e w1 ⟨rfl, hb1⟩
    have HB1 := Lib.hid (HB0.out.trans (hb1.mono HB0.out.size))
    have HQ1 := Lib.hid (blk_below HQ0.out hb1)
    clear hb1 q0 x0 x1
    have q0 : w1.cell? ⟨w.heap.size, 0, none⟩ = some (.pointer (some ⟨X, 0, none⟩)) := (cell_of_row _ _ 0 _ _ _ HQ1.out).trans rfl
    have x0 : w1.cell? ⟨X, 0, none⟩ = some (.slice sa SS.length sc) := (HB1.out.cell (p := ⟨X, 0, none⟩) hXl).trans HD0.out
    have x1 : w1.cell? ⟨X, 1, none⟩ = some (.slice ca CC.length cc) := (HB1.out.cell (p := ⟨X, 1, none⟩) hXl).trans HD1.out
    obtain ⟨b, hb⟩ : ∃ b, b = SS.any badS := ⟨_, rfl⟩
    rw [← hb]
    cases b with
    | true =>
      have HR := Lib.hid (show false = mayI SS CC by unfold mayI; rw [HA.out, ← hb]; rfl)
      clear hb
      go_wp2_with fail
      go_ret
      exact ⟨dk_retB HR.out, HB1.out⟩
    | false =>
      by_cases hl : CC.length ≤ 4096
      rotate_left
      · have d5 : decide ((CC.length : Int) > 4096) = true := decide_eq_true (by omega)
        have d6 : decide ((4096 : Int) < (CC.length : Int)) = true := decide_eq_true (by omega)
        have HR := Lib.hid (show false = mayI SS CC by unfold mayI; rw [HA.out, ← hb, decide_eq_false hl]; rfl)
        clear hb hl
        go_wp2_with fail
        go_ret
        exact ⟨dk_retB HR.out, HB1.out⟩
      · have d5 : decide ((CC.length : Int) > 4096) = false := decide_eq_false (by omega)
        have d6 : decide ((4096 : Int) < (CC.length : Int)) = false := decide_eq_false (by omega)
        have HR := Lib.hid (show (!CC.any (badW SS.length)) = mayI SS CC by unfold mayI; rw [HA.out, ← hb, decide_eq_true hl]; rfl)
        have HC2 := Lib.hid (dix_wrC X w.heap.size sa SS.length sc ca CC.length cc CC w1 (H3.out.below HB1.out) hc q0 x0)
        clear hb hl
        go_wp2_with fail
        refine HC2.out.mono ?_
        rintro e w2 ⟨rfl, hb2⟩
        have HB2 := Lib.hid (HB1.out.trans (hb2.mono HB1.out.size))
        clear hb2
        obtain ⟨b, hb⟩ : ∃ b, b = CC.any (badW SS.length) := ⟨_, rfl⟩
        rw [← hb] at HR ⊢
        clear hb
        cases b
        all_goals
          go_wp2_with fail
          go_ret
          exact ⟨dk_retB HR.out, HB2.out⟩
end Go.Proofs.YtagenkofoacajaaGreatDoor

namespace Go.Proofs.YtagenkofoacajaaGreatDoor
open Go.RowKit Vi

theorem mayI_ok {SS : List ByteArray} {CC : List Wr} (h : mayI SS CC = true) : ∀ x ∈ CC, 0 ≤ x.1 ∧ x.1 < (SS.length : Int) ∧ x.2.size = 128 := by
  intro x hx
  unfold mayI at h
  simp only [Bool.and_eq_true, Bool.not_eq_true'] at h
  have h4 := h.2.2.2
  have h5 : badW SS.length x = false := by
    cases q : badW SS.length x with
    | false => rfl
    | true => rw [List.any_eq_true.2 ⟨x, hx, q⟩] at h4; cases h4
  unfold badW at h5
  exact dck_ok (by simpa using h5)
/-- a disk that has just been made -/
def NewD (SS : List ByteArray) (CC : List Wr) (w : World) (e : Ending) (w' : World) : Prop := ∃ D, e = .returned (.tuple #[.pointer (some ⟨D, 0, none⟩), .int .i64 0]) ∧ DK D SS CC false 0 0 w' ∧ (∀ b, InD D w' b → w.heap.size ≤ b) ∧ Below w.heap.size w w'
def NoD (w : World) (e : Ending) (w' : World) : Prop := e = .returned (.tuple #[.pointer none, .int .i64 2]) ∧ Below w.heap.size w w'
theorem own_ge {α : Type} {f : α → List Value} {s : Nat} {T : TypeId} {w : World} {B g o n c : Nat} {l : List α} (h : OwX f s T w B (.slice (some ⟨g, o, none⟩) n c) l) : B ≤ g := by
  rcases h.2 with ⟨e, _⟩ | ⟨g', cap, cur, e, hb, h4, _⟩
  · cases e
  · injection e with e _ _
    injection e with e
    injection e with e _ _
    subst e
    exact hb
def LoadR (b : Bool) (SS : List ByteArray) (CC : List Wr) (w : World) (e : Ending) (w' : World) : Prop := (b = true → NewD SS CC w e w') ∧ (b = false → NoD w e w')
set_option maxRecDepth 100000 in
set_option maxHeartbeats 2000000 in
theorem dload_any (A : Option Addr) (c : Nat) (A2 : Option Addr) (c2 : Nat) (SS : List ByteArray) (CC : List Wr) (w : World) (h2 : RdX stC 1 w A SS.length SS) (h3 : RdX wrC 2 w A2 CC.length CC) (hs : SS.length ≤ 100000) (hc : CC.length ≤ 100000) (b : Bool) (hb : b = mayI SS CC) :
    Calls Tryz.prog 26 #[.agg #[.slice A SS.length c, .slice A2 CC.length c2]] w (LoadR b SS CC w) := by
  obtain ⟨o1, ho1⟩ : ∃ o : Obj, o = .cells #[.slice A SS.length c, .slice A2 CC.length c2] 66 (0, 0) := ⟨_, rfl⟩
  obtain ⟨o2, ho2⟩ : ∃ o : Obj, o = .cells #[.slice A SS.length c, .slice A2 CC.length c2] 42 (0, 0) := ⟨_, rfl⟩
  have HB0 := Lib.hid (((Below.refl w.heap.size w).alloc (Nat.le_refl _) o1).alloc (by simp) o2)
  have HX0 : Hid (((w.alloc o1).alloc o2).heap[w.heap.size + 1]? = some o2) := Lib.hid (two_blk w o1 o2)
  have H2 := Lib.hid h2
  have H3 := Lib.hid h3
  have HOK := Lib.hid (fun q : b = true => mayI_ok (hb.symm.trans q))
  subst ho2
  have HM := Lib.hid (dmay_any (w.heap.size + 1) A c A2 c2 SS CC _ ((cell_of_row _ _ 0 _ _ _ HX0.out).trans rfl) ((cell_of_row _ _ 1 _ _ _ HX0.out).trans rfl) (h2.below HB0.out) (h3.below HB0.out) hs hc)
  rw [← hb] at HM
  clear h2 h3 hb
  subst ho1
  go_enter Tryz.func26, Tryz.ntmps26
  go_wp2_with fail
  refine HM.out.mono ?_
  rintro e w1 ⟨rfl, hb1⟩
  have HB1 := Lib.hid (HB0.out.trans (hb1.mono HB0.out.size))
  have HX1 := Lib.hid (blk_below HX0.out hb1)
  have H21 := Lib.hid (H2.out.below HB1.out)
  have H31 := Lib.hid (H3.out.below HB1.out)
  clear hb1
  cases b with
  | false =>
    go_wp2_with fail
    go_ret2
    exact ⟨(fun q => by cases q), fun _ => ⟨rfl, HB1.out⟩⟩
  | true =>
    have HC := Lib.hid (dcopy_any (w.heap.size + 1) A SS.length c A2 CC.length c2 SS CC w1 ((cell_of_row _ _ 0 _ _ _ HX1.out).trans rfl) ((cell_of_row _ _ 1 _ _ _ HX1.out).trans rfl) H21.out H31.out hs hc)
    go_wp2_with fail
    refine HC.out.mono ?_
    rintro e w2 ⟨B1, n1, k1, B2, n2, k2, rfl, ho1, ho2, hb⟩
    have HO1 := Lib.hid ho1
    have HO2 := Lib.hid ho2
    have HB2 := Lib.hid (HB1.out.trans (hb.mono HB1.out.size))
    clear ho1 ho2 hb
    go_wp2_with fail
    have HD : Hid ((w2.alloc (dkO B1 n1 k1 B2 n2 k2 true false 0 0)).heap[w2.heap.size]? = some (dkO B1 n1 k1 B2 n2 k2 true false 0 0)) := Lib.hid (blk_new w2 _)
    have hz := HB1.out.size
    have hz2 := HB2.out.size
    go_ret2
    exact ⟨fun _ => ⟨w2.heap.size, rfl, ⟨⟨B1, n1, k1, B2, n2, k2, HD.out, (HO1.out.alloc _).mono (Nat.zero_le _), (HO2.out.alloc _).mono (Nat.zero_le _)⟩, HOK.out (by first | rfl | trivial)⟩, fun b q => by
      rcases q.cases HD.out with q | ⟨o, q⟩ | ⟨o, q⟩
      · subst q; exact hz2
      · subst q; have := own_ge HO1.out; omega
      · subst q; have := own_ge HO2.out; omega, HB2.out.alloc hz2 _⟩, (fun q => by cases q)⟩
end Go.Proofs.YtagenkofoacajaaGreatDoor

namespace Go.Proofs.YtagenkofoacajaaGreatDoor
open Go.RowKit Vi

theorem rd_grown {α : Type} {f : α → List Value} {s : Nat} {w w' : World} {A : Option Addr} {n : Nat} {l : List α} (h : RdX f s w A n l) (hb : Below w.heap.size w w') : RdX f s w' A n l := h.below hb
end Go.Proofs.YtagenkofoacajaaGreatDoor

namespace Go.Proofs.YtagenkofoacajaaGreatDoor
open Go.RowKit Vi

/-- what a disk is: safe sectors, cached writes, what is armed, whether the power is gone, how much was done -/
structure Ds where
  S : List ByteArray
  C : List Wr
  ar : Int
  go : Bool
  op : Int
/-- a row that reads as a list, in a block of which P says something -/
def RdP {α : Type} (P : Nat → Prop) (f : α → List Value) (s : Nat) (w : World) (A : Option Addr) (n : Nat) (l : List α) : Prop := RdX f s w A n l ∧ (0 < n → ∀ b o, A = some ⟨b, o, none⟩ → P b)
theorem RdP.below {α : Type} {P : Nat → Prop} {f : α → List Value} {s : Nat} {w w' : World} {A : Option Addr} {n : Nat} {l : List α} (h : RdP P f s w A n l) (hb : Below w.heap.size w w') : RdP P f s w' A n l := ⟨h.1.below hb, h.2⟩
theorem OwX.rdP {α : Type} {P : Nat → Prop} {f : α → List Value} {s : Nat} {T : TypeId} {w : World} {B n c : Nat} {A : Option Addr} {l : List α} (hf : ∀ x, (f x).length = s) (hP : ∀ b, B ≤ b → P b) (h : OwX f s T w B (.slice A n c) l) : RdP P f s w A n l := by
  obtain ⟨A', c', e, hr, _, _⟩ := h.rd hf
  injection e with e1 e2 e3
  subst e1 e2 e3
  exact ⟨hr, fun _ b o e => by subst e; exact hP b (own_ge h)⟩
theorem OwX.oth {α : Type} {f : α → List Value} {s : Nat} {T T' : TypeId} {w w' : World} {B g : Nat} {v : Value} {l : List α} {cs : Array Value} {fr : Nat × Nat} (h : OwX f s T w B v l) (ho : ∀ k, k ≠ g → w'.heap[k]? = w.heap[k]?) (hg : w.heap[g]? = some (.cells cs T' fr)) (hT : T ≠ T') : OwX f s T w' B v l := by
  rcases h with ⟨h1, h | ⟨b, cap, cur, h2, h3, h4, h5⟩⟩
  · exact ⟨h1, .inl h⟩
  · refine ⟨h1, .inr ⟨b, cap, cur, h2, h3, (ho b (fun e => ?_)).trans h4, h5⟩⟩
    subst e
    rw [hg] at h4
    cases h4
    exact hT rfl
abbrev rdv (A : Option Addr) (n c : Nat) (A2 : Option Addr) (n2 c2 : Nat) (ar : Int) (go : Bool) (op : Int) : Value := .agg #[.slice A n c, .slice A2 n2 c2, .int .i64 ar, .bool go, .int .i64 op]
/-- a value is the document's disk -/
def RdR (P : Nat → Prop) (d : Ds) (w : World) (v : Value) : Prop := ∃ A n c A2 n2 c2, v = rdv A n c A2 n2 c2 d.ar d.go d.op ∧ RdP P stC 1 w A n d.S ∧ RdP P wrC 2 w A2 n2 d.C
def Ds.step (d : Ds) : Ds := if d.ar = 1 then { d with ar := 0, go := true } else { d with ar := max (d.ar - 1) 0, op := d.op + 1 }
/-- a disk, and a number, are handed back -/
def RetDI (P : Nat → Prop) (d : Ds) (z : Int) (w : World) (e : Ending) (w' : World) : Prop := ∃ v, e = .returned (.tuple #[v, .int .i64 z]) ∧ RdR P d w' v ∧ Below w.heap.size w w'
/-- what step hands back: the same rows -/
def StepP (A : Option Addr) (n c : Nat) (A2 : Option Addr) (n2 c2 : Nat) (d : Ds) (w : World) (e : Ending) (w' : World) : Prop := e = .returned (.tuple #[rdv A n c A2 n2 c2 d.step.ar d.step.go d.step.op, .bool (decide (d.ar = 1))]) ∧ Below w.heap.size w w'
def RetDB (P : Nat → Prop) (d : Ds) (z : Bool) (w : World) (e : Ending) (w' : World) : Prop := ∃ v, e = .returned (.tuple #[v, .bool z]) ∧ RdR P d w' v ∧ Below w.heap.size w w'
def RetD (P : Nat → Prop) (d : Ds) (w : World) (e : Ending) (w' : World) : Prop := ∃ v, e = .returned v ∧ RdR P d w' v ∧ Below w.heap.size w w'
end Go.Proofs.YtagenkofoacajaaGreatDoor

namespace Go.Proofs.YtagenkofoacajaaGreatDoor
open Go.RowKit Vi

theorem shwL_take (i : Int) (CC : List Wr) (k : Nat) (hk : k < CC.length) (s : ByteArray) : shwL i (CC.take (k + 1)) s = if CC[k].1 = i then CC[k].2 else shwL i (CC.take k) s := by
  rw [List.take_succ_eq_append_getElem hk, shwL_snoc]
/-- all are kept -/
def allK : Nat → Bool := fun _ => true
theorem info_im : (Tryz.prog.info? 66).map (·.size) = some 2 := by kernel_rfl
/-- the sectors that are safe then, and no cache -/
def DoneP (SS : List ByteArray) (w : World) (e : Ending) (w' : World) : Prop := ∃ A n c, e = .returned (.agg #[.slice A n c, .slice none 0 0]) ∧ OwX stC 1 9 w' w.heap.size (.slice A n c) SS ∧ Below w.heap.size w w'
end Go.Proofs.YtagenkofoacajaaGreatDoor

namespace Go.Proofs.YtagenkofoacajaaGreatDoor
open Go.RowKit Vi

/-- a number is a block's beyond a world's end -/
theorem step_false (SS : List ByteArray) (CC : List Wr) (ar op : Int) : Ds.step ⟨SS, CC, ar, false, op⟩ = ⟨SS, CC, stpF ar, stpD ar, stpO op ar⟩ := by
  unfold Ds.step stpF stpD stpO
  by_cases h : ar = 1
  · rw [if_pos h, if_pos h, if_pos h, decide_eq_true h]
  · rw [if_neg h, if_neg h, if_neg h, decide_eq_false h]
end Go.Proofs.YtagenkofoacajaaGreatDoor

namespace Go.Proofs.YtagenkofoacajaaGreatDoor
open Go.RowKit Vi

/-- the sectors that are safe behind a flush -/
def flsS (ar : Int) (SS : List ByteArray) (CC : List Wr) : List ByteArray := if ar = 1 then SS else setP allK 0 CC SS
end Go.Proofs.YtagenkofoacajaaGreatDoor

namespace Go.Proofs.YtagenkofoacajaaGreatDoor
open Go.RowKit Vi

theorem results_cttY {fn : Func} {p t u : Tmp} {ty : TypeId} (h : fn.results = #[.cell p ty, .tmp t, .tmp u]) (tmps : Array Value) (w : World) (g : Nat) (cs : Array Value)
    (hp : tmps.getD p undef = .pointer (some ⟨g, 0, none⟩)) (hr : (loadVar ty ⟨g, 0, none⟩).run Tryz.prog w = .ok (.agg cs) w) :
    (results fn tmps).run Tryz.prog w = .ok (.tuple #[.agg cs, tmps.getD t undef, tmps.getD u undef]) w := by
  have hp' : tmps[p]?.getD undef = .pointer (some ⟨g, 0, none⟩) := by simpa using hp
  simp [results, h, hp', asAddr, hr]
/-- a disk, a text, and a number are handed back -/
def RetDSI (P : Nat → Prop) (d : Ds) (s : ByteArray) (z : Int) (w : World) (e : Ending) (w' : World) : Prop := ∃ v, e = .returned (.tuple #[v, .string s, .int .i64 z]) ∧ RdR P d w' v ∧ Below w.heap.size w w'
end Go.Proofs.YtagenkofoacajaaGreatDoor

namespace Go.Proofs.YtagenkofoacajaaGreatDoor
open Go.RowKit Vi

theorem info_u8D : (Tryz.prog.info? 5).map (fun i => (i.zero, i.size, i.bytes)) = some (some (.int .u8 0), 1, 1) := by kernel_rfl
def zsD (n : Nat) : List UInt8 := List.replicate n 0
theorem made_zsD (n : Nat) : madeCells (Value.int .u8 0).cells (n * 1) = ((zsD n).map fun c => Value.int .u8 (c.toNat : Int)).toArray := by
  unfold zsD madeCells Value.cells
  apply Array.ext
  · simp
  · intro j h1 h2; simp [Nat.mod_one]
theorem make_zsD (n : Nat) (hn : n ≤ 3000000) (w : World) : (Instr.makeSlice 81 (.int .i64 (n : Int)) (.int .i64 (n : Int))).run Tryz.prog w = .ok (.slice (some ⟨w.heap.size, 0, none⟩) n n) (w.alloc (.cells ((zsD n).map fun c => Value.int .u8 (c.toNat : Int)).toArray 5)) := by
  obtain ⟨i0, hi, hz0, hz1, hz2⟩ := info_parts info_u8D
  have h := run_make (P := Tryz.prog) w 81 5 i0 (.int .u8 0) Tryz.underlying81 hi hz0 .i64 .i64 (n : Int) (n : Int) (by omega) (Int.le_refl _) (by rw [hz2]; omega) (by omega)
  rw [h, hz1]
  simp only [Int.toNat_natCast]
  rw [made_zsD]
theorem conv_zsD (n : Nat) (w : World) (cs : Array Value) (hcs : cs = ((zsD n).map fun c => Value.int .u8 (c.toNat : Int)).toArray) :
    (convert 81 9 (.slice (some ⟨w.heap.size, 0, none⟩) n n)).run Tryz.prog (w.alloc (.cells cs 5)) = .ok (.string ⟨(zsD n).toArray⟩) (w.alloc (.cells cs 5)) := by
  have hl : (zsD n).length = n := by simp [zsD]
  have h := run_convert_bytes_back (P := Tryz.prog) (w.alloc (.cells cs 5)) 81 9 5 ⟨w.heap.size, 0, none⟩ n (zsD n) Tryz.underlying81 Tryz.underlying5 Tryz.underlying9 (fun j hj => by
    rw [Addr.add_lit, Nat.zero_add, cell_of_row _ _ _ _ _ _ (MapKept.heap_alloc w (.cells cs 5)).1, hcs]
    simp [hj])
  rw [hl] at h
  exact h
/-- a sector of noughts -/
def noZ : ByteArray := ⟨(zsD 128).toArray⟩
theorem noZ_size : noZ.size = 128 := by
  show (zsD 128).toArray.size = 128
  simp [zsD]
/-- a text with noughts behind it, or cut off -/
def fullT (s : ByteArray) : ByteArray := (s ++ noZ).extract 0 128
theorem fullT_size (s : ByteArray) : (fullT s).size = 128 := by
  unfold fullT
  rw [ByteArray.size_extract, ByteArray.size_append, noZ_size]
  omega
/-- an act -/
structure Ac where
  kd : Int
  at' : Int
  nn : Int
  t : ByteArray
  rw' : Bool
  ka : Option Addr
  kn : Nat
  kc : Nat
  ks : List Int
def acC (a : Ac) : List Value := [.int .i64 a.kd, .int .i64 a.at', .int .i64 a.nn, .string a.t, .bool a.rw', .slice a.ka a.kn a.kc]
theorem acC_len (a : Ac) : (acC a).length = 6 := rfl
/-- what an act holds, in a world -/
structure AcOk (w : World) (a : Ac) : Prop where
  r : RdX inC 1 w a.ka a.kn a.ks
  ws : ∀ x ∈ a.ks, (Lit.int .i64 x).wf = true
  wn : (Lit.int .i64 a.nn).wf = true
  wa : (Lit.int .i64 a.at').wf = true
  wk : (Lit.int .i64 a.kd).wf = true
  wt : a.t.size ≤ 140737488351232
  le : a.kn ≤ a.kc
  lc : a.kc ≤ maxLen
theorem AcOk.below {w w' : World} {a : Ac} (h : AcOk w a) (hb : Below w.heap.size w w') : AcOk w' a := ⟨h.r.below hb, h.ws, h.wn, h.wa, h.wk, h.wt, h.le, h.lc⟩
/-- what an act writes -/
def acT (a : Ac) : ByteArray := if a.rw' = true then a.t else fullT a.t
abbrev acV (a : Ac) : Value := .agg #[.int .i64 a.kd, .int .i64 a.at', .int .i64 a.nn, .string a.t, .bool a.rw', .slice a.ka a.kn a.kc]
/-- so few, of so few bytes -/
def acFew (l : List Ac) : Prop := l.length ≤ 60
def wtA (a : Ac) : Int := min (a.t.size : Int) 10000 + min (a.kn : Int) 10000
def sumA (l : List Ac) : Int := (l.map wtA).foldl (· + ·) 0
theorem sumA_snoc (l : List Ac) (a : Ac) : sumA (l ++ [a]) = sumA l + wtA a := by simp [sumA]
theorem wtA_pos (a : Ac) : 0 ≤ wtA a := by unfold wtA; omega
theorem sumA_pos (l : List Ac) : 0 ≤ sumA l := by
  have : ∀ (l : List Ac) (z : Int), 0 ≤ z → 0 ≤ (l.map wtA).foldl (· + ·) z := fun l => by
    induction l with
    | nil => intro z hz; exact hz
    | cons a r ih => intro z hz; exact ih (z + wtA a) (by have := wtA_pos a; omega)
  exact this l 0 (Int.le_refl _)
theorem sumA_bd (l : List Ac) : sumA l ≤ 20000 * (l.length : Int) := by
  have : ∀ (l : List Ac) (z : Int), (l.map wtA).foldl (· + ·) z ≤ z + 20000 * (l.length : Int) := fun l => by
    induction l with
    | nil => intro z; simp
    | cons b r ih =>
      intro z
      have := ih (z + wtA b)
      have hb : wtA b ≤ 20000 := by unfold wtA; omega
      show (r.map wtA).foldl (· + ·) (z + wtA b) ≤ _
      rw [List.length_cons]
      push_cast
      omega
  have := this l 0
  unfold sumA
  omega
/-- whether acts are few is told -/
def FewP (l : List Ac) (w : World) (e : Ending) (w' : World) : Prop := ∃ b, e = .returned (.bool b) ∧ (b = true → acFew l) ∧ Below w.heap.size w w'
end Go.Proofs.YtagenkofoacajaaGreatDoor

namespace Go.Proofs.YtagenkofoacajaaGreatDoor
open Go.RowKit Vi

theorem size_strD : (Tryz.prog.info? 9).map (·.size) = some 1 := by kernel_rfl
/-- a new row of empty texts -/
def empD (n : Nat) : List Value := List.replicate n (.string ⟨#[]⟩)
theorem made_empD (n : Nat) : madeCells (Value.string ⟨#[]⟩).cells (n * 1) = (empD n).toArray := by
  unfold empD madeCells Value.cells
  apply Array.ext
  · simp
  · intro j h1 h2; simp [Nat.mod_one]
theorem make_atD (w : World) (n : Nat) (hn : n ≤ 3000000) : (Instr.makeSlice 39 (.int .i64 (n : Int)) (.int .i64 (n : Int))).run Tryz.prog w = .ok (.slice (some ⟨w.heap.size, 0, none⟩) n n) (w.alloc (.cells (empD n).toArray 9)) := by
  obtain ⟨i0, hi, hz0, hz1, hz2⟩ := info_parts info_stA
  have h := run_make (P := Tryz.prog) w 39 9 i0 (.string ⟨#[]⟩) Tryz.underlying39 hi hz0 .i64 .i64 (n : Int) (n : Int) (by omega) (Int.le_refl _) (by rw [hz2]; omega) (by omega)
  rw [h, hz1]
  simp only [Int.toNat_natCast]
  rw [made_empD]
/-- a row whose first k texts are s -/
def rpD (s : ByteArray) (k n : Nat) : List Value := List.replicate k (.string s) ++ empD (n - k)
theorem rpD_len (s : ByteArray) (k n : Nat) (h : k ≤ n) : (rpD s k n).length = n := by simp [rpD, empD]; omega
theorem rpD_splice (s : ByteArray) (k m n : Nat) (h : k + m ≤ n) : splice (rpD s k n) k (List.replicate m (.string s)) = rpD s (k + m) n := by
  unfold splice rpD
  rw [List.take_left' (by simp), List.length_replicate, List.drop_append, List.length_replicate, List.drop_eq_nil_of_le (by simp), List.nil_append, ← List.append_assoc, List.replicate_append_replicate]
  congr 1
  unfold empD
  rw [List.drop_replicate]
  congr 1
  omega
theorem rpD_zero (s : ByteArray) (n : Nat) : rpD s 0 n = empD n := by simp [rpD]
theorem rpD_all (s : ByteArray) (n : Nat) : rpD s n n = (List.replicate n s).map Value.string := by simp [rpD, empD]
/-- a row of one text is handed back -/
def RepP (s : ByteArray) (n : Nat) (w : World) (e : Ending) (w' : World) : Prop := ∃ A, e = .returned (.slice (some A) n n) ∧ RdX stC 1 w' (some A) n (List.replicate n s) ∧ Below w.heap.size w w'
set_option maxRecDepth 100000 in
set_option maxHeartbeats 4000000 in
theorem drepeat_any (s : ByteArray) (b c n : Nat) (w : World) (hb : w.cell? ⟨b, 0, none⟩ = some (.string s)) (h1 : 1 ≤ n) (hn : n ≤ 4096) :
    Calls Tryz.prog 27 #[.slice (some ⟨b, 0, none⟩) 1 c, .int .i64 (n : Int)] w (RepP s n w) := by
  have hbl : b < w.heap.size := World.block_lt_of_cell? w _ hb
  have HM := Lib.hid (fun W : World => (Tryz.bits_Mul 1 n (by omega) (by omega) W))
  have e1 : 1 * n / 18446744073709551616 = 0 := Nat.div_eq_of_lt (by omega)
  have e2 : 1 * n % 18446744073709551616 = n := by rw [Nat.one_mul]; exact Nat.mod_eq_of_lt (by omega)
  rw [e1, e2] at HM
  have HM : Hid (∀ W : World, Calls Tryz.prog 39 #[.int .u64 1, .int .u64 (n : Int)] W fun e w' => e = .returned (.tuple #[.int .u64 0, .int .u64 (n : Int)]) ∧ W = w') := Lib.hid (fun W => (HM.out W).mono fun _ _ h => ⟨h.1, h.2.symm⟩)
  clear e1 e2
  have hmk := fun W => make_atD W n (by omega)
  have HB0 := Lib.hid ((Below.refl w.heap.size w).alloc (Nat.le_refl _) (.cells (empD n).toArray 9))
  have HS0 : Hid ((w.alloc (.cells (empD n).toArray 9)).cell? ⟨b, 0, none⟩ = some (.string s)) := Lib.hid ((HB0.out.cell (p := ⟨b, 0, none⟩) hbl).trans hb)
  have hn1 : (1 : Int) ≤ (n : Int) := by omega
  have hn2 : (n : Int) ≤ 4096 := by omega
  clear hb
  go_enter Tryz.func27, Tryz.ntmps27
  go_wp2_with fail
  refine (HM.out _).mono ?_
  rintro e w' ⟨rfl, rfl⟩
  go_wp2_with (with_reducible refine wpList_copy_splice rfl (.tmp 31) (.tmp 32) 39 39 rfl 9 Tryz.underlying39 size_strD (some ⟨w.heap.size, 0, none⟩) (some ⟨b, 0, none⟩) n n 1 c rfl rfl w.heap.size 0 (empD n) 9 (MapKept.heap_alloc _ _).1 [.string s] ?n1 (fun _ => ⟨rfl, _, rfl, ?s1⟩) ?f1 ?o1 w.heap.size w HB0.out (Nat.le_refl _) ?_)
  case n1 => exact (Nat.min_eq_left h1).symm
  case s1 =>
    intro j v hj
    have h0 : j = 0 := by
      have := (List.getElem?_eq_some_iff.1 hj).1
      simp at this
      omega
    subst h0
    rw [Addr.add_lit]
    have e : v = .string s := by simpa using hj.symm
    rw [e]
    exact HS0.out
  case f1 => simp [empD]; omega
  case o1 => intro v hv; obtain rfl := List.mem_singleton.1 hv; rfl
  intro w1 hw1 hb1
  have HR1 : Hid (w1.heap[w.heap.size]? = some (.cells (rpD s 1 n).toArray 9 (0, 0))) := Lib.hid (by
    have q := hw1.out
    rw [← rpD_zero s n] at q
    have e : splice (rpD s 0 n) 0 [Value.string s] = rpD s 1 n := rpD_splice s 0 1 n (by omega)
    rw [e] at q
    exact q)
  have HB1 := Lib.hid hb1
  clear hw1 hb1 hmk HM
  go_wp2_with fail
  go_loopw [8] (fun i wr => ∃ k : Nat, i = .int .i64 (k : Int) ∧ 1 ≤ k ∧ k ≤ n ∧ wr.heap[w.heap.size]? = some (.cells (rpD s k n).toArray 9 (0, 0)) ∧ Below w.heap.size w wr) (fun i _ => n - (intOf i).toNat)
  case atStart => exact ⟨1, rfl, Nat.le_refl _, h1, HR1.out, HB1.out⟩
  case round =>
    obtain ⟨k, rfl, hk1, hk, hr, hb⟩ := hrel
    have HR := Lib.hid hr
    have HB := Lib.hid hb
    clear hr hb
    by_cases hlt : k < n
    · have hd1 : decide ((k : Int) < (n : Int)) = true := decide_eq_true (by omega)
      have hi0 : (0 : Int) ≤ (k : Int) := by omega
      have hi1 : (k : Int) ≤ (n : Int) := by omega
      obtain ⟨m, hm⟩ : ∃ m, m = Nat.min k (n - k) := ⟨_, rfl⟩
      have hm1 : m ≤ k := by rw [hm]; exact Nat.min_le_left _ _
      have hm2 : k + m ≤ n := by have : m ≤ n - k := by rw [hm]; exact Nat.min_le_right _ _
                                 omega
      have hm3 : 1 ≤ m := by rw [hm]; exact Nat.le_min.2 ⟨hk1, by omega⟩
      have HMm := Lib.hid hm
      clear hm
      have hs1 : IntKind.i64.wrap ((k : Int) + (m : Int)) = (k : Int) + (m : Int) := IntWalk.i64_in _ (by omega)
      have hnk : ¬ n = k := by omega
      go_upto_region 9 with (fail)
      refine wp_region_L_drew (S := fun _ _ => True) (by kernel_rfl) trivial (fun hS hC => ?_)
      refine wpAnyL_take (i := 0) (oi := { dst := some 38, op := .move (.tmp 8), type := _, pos := _, after := _, guard := none }) (v := ?_) rfl (by kernel_rfl) (by kernel_rfl) (by kernel_rfl) (fun _ _ _ h => h) (fun _ _ => Iff.rfl) hC (Or.inl ⟨by rfl, ?_⟩) hS (fun hC hS => ?_)
      rotate_left
      · intro W9 hSw; skip; go_simp; try (with_reducible rfl)
      try simp only [Act.put, List.setIfInBounds_toArray, List.set_cons_zero, List.set_cons_succ]
      refine wpAnyL_take (i := 1) (oi := { dst := some 39, op := .move (.tmp 7), type := _, pos := _, after := _, guard := none }) (v := ?_) rfl (by kernel_rfl) (by kernel_rfl) (by kernel_rfl) (fun _ _ _ h => h) (fun _ _ => Iff.rfl) hC (Or.inl ⟨by rfl, ?_⟩) hS (fun hC hS => ?_)
      rotate_left
      · intro W9 hSw; skip; go_simp; try (with_reducible rfl)
      try simp only [Act.put, List.setIfInBounds_toArray, List.set_cons_zero, List.set_cons_succ]
      refine wpAnyL_take (i := 2) (oi := { dst := some 40, op := .move (.tmp 8), type := _, pos := _, after := _, guard := none }) (v := ?_) rfl (by kernel_rfl) (by kernel_rfl) (by kernel_rfl) (fun _ _ _ h => h) (fun _ _ => Iff.rfl) hC (Or.inl ⟨by rfl, ?_⟩) hS (fun hC hS => ?_)
      rotate_left
      · intro W9 hSw; skip; go_simp; try (with_reducible rfl)
      try simp only [Act.put, List.setIfInBounds_toArray, List.set_cons_zero, List.set_cons_succ]
      refine wpAnyL_take (i := 3) (oi := { dst := some 41, op := .slice 39 (.tmp 39) (some (.tmp 40)) none none, type := _, pos := _, after := _, guard := none }) (v := ?_) rfl (by kernel_rfl) (by kernel_rfl) (by kernel_rfl) (fun _ _ _ h => h) (fun _ _ => Iff.rfl) hC (Or.inl ⟨by rfl, ?_⟩) hS (fun hC hS => ?_)
      rotate_left
      · intro W9 hSw; skip; go_simp; try (with_reducible rfl)
      try simp only [Act.put, List.setIfInBounds_toArray, List.set_cons_zero, List.set_cons_succ]
      refine wpAnyL_take (i := 4) (oi := { dst := some 42, op := .move (.tmp 7), type := _, pos := _, after := _, guard := none }) (v := ?_) rfl (by kernel_rfl) (by kernel_rfl) (by kernel_rfl) (fun _ _ _ h => h) (fun _ _ => Iff.rfl) hC (Or.inl ⟨by rfl, ?_⟩) hS (fun hC hS => ?_)
      rotate_left
      · intro W9 hSw; skip; go_simp; try (with_reducible rfl)
      try simp only [Act.put, List.setIfInBounds_toArray, List.set_cons_zero, List.set_cons_succ]
      refine wpAnyL_take (i := 5) (oi := { dst := some 43, op := .move (.tmp 8), type := _, pos := _, after := _, guard := none }) (v := ?_) rfl (by kernel_rfl) (by kernel_rfl) (by kernel_rfl) (fun _ _ _ h => h) (fun _ _ => Iff.rfl) hC (Or.inl ⟨by rfl, ?_⟩) hS (fun hC hS => ?_)
      rotate_left
      · intro W9 hSw; skip; go_simp; try (with_reducible rfl)
      try simp only [Act.put, List.setIfInBounds_toArray, List.set_cons_zero, List.set_cons_succ]
      refine wpAnyL_take (i := 6) (oi := { dst := some 44, op := .slice 39 (.tmp 42) none (some (.tmp 43)) none, type := _, pos := _, after := _, guard := none }) (v := ?_) rfl (by kernel_rfl) (by kernel_rfl) (by kernel_rfl) (fun _ _ _ h => h) (fun _ _ => Iff.rfl) hC (Or.inl ⟨by rfl, ?_⟩) hS (fun hC hS => ?_)
      rotate_left
      · intro W9 hSw; skip; go_simp; try (with_reducible rfl)
      try simp only [Act.put, List.setIfInBounds_toArray, List.set_cons_zero, List.set_cons_succ]
      refine wpAnyL_ready (rs := [7]) (by kernel_rfl) (by simp) hC ?_
      refine AllReadyL.cons (o := { dst := some 45, op := .call { callee := .builtin .copy, args := #[.tmp 41, .tmp 44], argTypes := #[39, 39] }, type := _, pos := _, after := _, guard := none }) rfl (fun K9 hK => ?_) ?_
      · skip
        refine step_copy_splice rfl (.tmp 41) (.tmp 44) 39 39 rfl 9 Tryz.underlying39 size_strD (some ⟨w.heap.size, k, none⟩) (some ⟨w.heap.size, 0, none⟩) (n - k) (n - k) k n ?d1 ?d2 w.heap.size k (rpD s k n) 9 HR.out (List.replicate m (.string s)) ?d3 (fun _ => ⟨rfl, _, rfl, ?d4⟩) ?d5 ?d6 w.heap.size w HB.out.drew (Nat.le_refl _) ?_
        case d1 => first | rfl | (trace_state; sorry)
        case d2 => first | rfl | (trace_state; sorry)
        case d3 => rw [List.length_replicate]; exact HMm.out
        case d4 =>
          intro j v hj
          have hjm : j < m := by
            have := (List.getElem?_eq_some_iff.1 hj).1
            simpa using this
          have e : v = .string s := by
            rw [List.getElem?_replicate, if_pos hjm] at hj
            simpa using hj.symm
          rw [Addr.add_lit, Nat.zero_add, e, cell_of_row _ _ _ _ _ _ (show wr.drew.heap[w.heap.size]? = _ from HR.out)]
          unfold rpD
          rw [List.getElem?_toArray, List.getElem?_append_left (by simp; omega), List.getElem?_replicate, if_pos (by omega)]
        case d5 => rw [List.length_replicate, rpD_len s k n hk]; exact hm2
        case d6 => intro v hv; obtain ⟨_, rfl⟩ := List.mem_replicate.1 hv; rfl
        intro w2 hw2 hb2
        have HR2 : Hid (w2.heap[w.heap.size]? = some (.cells (rpD s (k + m) n).toArray 9 (0, 0))) := Lib.hid (by rw [← rpD_splice s k m n hm2]; exact hw2.out)
        have HB2 := Lib.hid hb2
        clear hw2 hb2
        rw [List.length_replicate]
        refine hK _ _ trivial (fun hC => ?_)
        clear hK K9
        try simp only [Act.put, List.setIfInBounds_toArray, List.set_cons_zero, List.set_cons_succ]
        refine wpAnyL_take (i := 8) (oi := { dst := some 46, op := .binOp .add 3 (.tmp 38) (.tmp 45) 3, type := _, pos := _, after := _, guard := none }) (v := ?_) rfl (by kernel_rfl) (by kernel_rfl) (by kernel_rfl) (fun _ _ _ h => h) (fun _ _ => Iff.rfl) hC (Or.inl ⟨by rfl, ?_⟩) trivial (fun hC hS => ?_)
        rotate_left
        · intro W9 hSw; skip; go_simp; try (with_reducible rfl)
        try simp only [Act.put, List.setIfInBounds_toArray, List.set_cons_zero, List.set_cons_succ]
        refine wpAnyL_take (i := 9) (oi := { dst := some 8, op := .assign (.tmp 46), type := _, pos := _, after := _, guard := none }) (v := ?_) rfl (by kernel_rfl) (by kernel_rfl) (by kernel_rfl) (fun _ _ _ h => h) (fun _ _ => Iff.rfl) hC (Or.inl ⟨by rfl, ?_⟩) trivial (fun hC hS => ?_)
        rotate_left
        · intro W9 hSw; skip; go_simp; try (with_reducible rfl)
        try simp only [Act.put, List.setIfInBounds_toArray, List.set_cons_zero, List.set_cons_succ]
        refine wpAnyL_done (by kernel_rfl) ?_ _
        go_wp2_with fail
        go_roundw
        case rel => exact ⟨k + m, by first | go_num | (simp [goInt]; done) | (simp [goInt]; omega), by omega, hm2, HR2.out, HB2.out⟩
        case measure => simp [intOf] <;> omega
      exact AllReadyL.nil
    · have hd1 : decide ((k : Int) < (n : Int)) = false := decide_eq_false (by omega)
      have hke : k = n := by omega
      subst hke
      have HF := Lib.hid (show RdX stC 1 wr (some ⟨w.heap.size, 0, none⟩) k (List.replicate k s) from ⟨by simp, fun _ => ⟨w.heap.size, 0, rfl, lt_of_block HR.out, fun j x i u hj hu => by
        have hjm := (List.getElem?_eq_some_iff.1 hj).1
        have hi := (List.getElem?_eq_some_iff.1 hu).1
        simp [stC] at hi
        subst hi
        have e2 := HR.out
        rw [rpD_all] at e2
        rw [cell_of_row _ _ _ _ _ _ e2, Nat.zero_add, Nat.mul_one, Nat.add_zero, List.getElem?_toArray, List.getElem?_map, hj]
        exact hu⟩⟩)
      go_wp2_with fail
      go_ret
      exact ⟨_, rfl, HF.out, HB.out⟩
theorem repZ : (⟨(Lib.repeatL [(0 : UInt8)] 128).toArray⟩ : ByteArray) = noZ := by
  have h : ∀ k, Lib.repeatL [(0 : UInt8)] k = List.replicate k 0 := fun k => by
    induction k with
    | zero => rfl
    | succ k ih => rw [List.replicate_succ, ← ih]; rfl
  unfold noZ zsD
  rw [h]
set_option maxRecDepth 100000 in
theorem dnew_no (n : Int) (w : World) (h : ¬ (16 ≤ n ∧ n ≤ 4096)) : Calls Tryz.prog 12 #[.int .i64 n] w (NoD w) := by
  have HZ := dsize_any n w
  rw [decide_eq_false h] at HZ
  have HZ := Lib.hid HZ
  clear h
  go_enter Tryz.func12, Tryz.ntmps12
  go_wp2_with fail
  refine HZ.out.mono ?_
  rintro e w' ⟨rfl, rfl⟩
  go_wp2_with fail
  go_ret2
  exact ⟨rfl, Below.refl _ _⟩
theorem may_new (n : Nat) (h1 : 16 ≤ n) (h2 : n ≤ 4096) : true = mayI (List.replicate n noZ) [] := by
  unfold mayI
  rw [List.length_replicate, decide_eq_true (by omega), decide_eq_true (by simp)]
  have : (List.replicate n noZ).any badS = false := by
    rw [List.any_eq_false]
    intro x hx
    obtain ⟨_, rfl⟩ := List.mem_replicate.1 hx
    unfold badS
    rw [decide_eq_true noZ_size]
    simp
  rw [this]
  rfl
set_option maxRecDepth 100000 in
set_option maxHeartbeats 2000000 in
theorem dnew_yes (n : Nat) (w : World) (h1 : 16 ≤ n) (h2 : n ≤ 4096) : Calls Tryz.prog 12 #[.int .i64 (n : Int)] w (NewD (List.replicate n noZ) [] w) := by
  have HZ := dsize_any (n : Int) w
  rw [decide_eq_true (by omega)] at HZ
  have HZ := Lib.hid HZ
  have HS := Lib.hid (Tryz.strings_Repeat ⟨#[0]⟩ 128 w (by omega) (by show 1 * 128 ≤ _; omega))
  have HE := Lib.hid repZ
  have HMY := Lib.hid (may_new n h1 h2)
  go_enter Tryz.func12, Tryz.ntmps12
  go_wp2_with fail
  refine HZ.out.mono ?_
  rintro e w' ⟨rfl, rfl⟩
  go_wp2_with fail
  refine HS.out.mono ?_
  rintro e w1 ⟨he, hb1⟩
  have hz : Ending.returned (.string ⟨(Lib.repeatL (⟨#[0]⟩ : ByteArray).data.toList 128).toArray⟩) = Ending.returned (.string noZ) := congrArg (fun x => Ending.returned (Value.string x)) HE.out
  rw [hz] at he
  subst he
  have HB1 := Lib.hid hb1
  clear hb1 hz
  have HB2 := Lib.hid (HB1.out.alloc HB1.out.size (.cells #[.string noZ] 9 (0, 0)))
  have HX := Lib.hid (blk_new w1 (.cells #[.string noZ] 9 (0, 0)))
  have HR := Lib.hid (drepeat_any noZ w1.heap.size 1 n _ ((cell_of_row _ _ 0 _ _ _ HX.out).trans rfl) (by omega) h2)
  go_wp2_with fail
  refine HR.out.mono ?_
  rintro e w2 ⟨A, rfl, hr, hb2⟩
  have HB3 := Lib.hid (HB2.out.trans (hb2.mono HB2.out.size))
  have HRD : Hid (RdX stC 1 w2 (some A) (List.replicate n noZ).length (List.replicate n noZ)) := Lib.hid (by rw [List.length_replicate]; exact hr)
  have HL := dload_any (some A) n none 0 (List.replicate n noZ) [] w2 HRD.out RdX.nil (by rw [List.length_replicate]; omega) (by simp) true HMY.out
  rw [List.length_replicate] at HL
  have HL := Lib.hid HL
  clear hr hb2
  go_wp2_with fail
  refine HL.out.mono ?_
  rintro e w3 ⟨hy, _⟩
  obtain ⟨D, rfl, hd, hi, hb3⟩ := hy (by first | rfl | trivial)
  have HD := Lib.hid hd
  have HI := Lib.hid hi
  have HB4 := Lib.hid (HB3.out.trans (hb3.mono HB3.out.size))
  clear hy hd hi hb3
  go_wp2_with fail
  go_ret2
  exact ⟨D, rfl, HD.out, fun b q => Nat.le_trans HB3.out.size (HI.out b q), HB4.out⟩
end Go.Proofs.YtagenkofoacajaaGreatDoor

namespace Go.Proofs.YtagenkofoacajaaGreatDoor
open Go.RowKit Vi

theorem InD.back {D : Nat} {w w' : World} (hb : Below w.heap.size w w') (hD : D < w.heap.size) {b : Nat} (q : InD D w' b) : InD D w b := by
  rcases q with q | ⟨o, n, c, q⟩ | ⟨o, n, c, q⟩
  · exact .inl q
  · exact .inr (.inl ⟨o, n, c, by rw [← hb.cell (p := ⟨D, 0, none⟩) hD]; exact q⟩)
  · exact .inr (.inr ⟨o, n, c, by rw [← hb.cell (p := ⟨D, 1, none⟩) hD]; exact q⟩)
/-- the program's disk is d, its blocks lie from n on, what lay below n of w0 lies as it lay -/
structure DW (n : Nat) (w0 : World) (D : Nat) (d : Ds) (w : World) : Prop where
  dk : DK D d.S d.C d.go d.op d.ar w
  far : ∀ b, InD D w b → n ≤ b
  bel : Below n w0 w
  sz : n ≤ w.heap.size
theorem DW.lt {n : Nat} {w0 : World} {D : Nat} {d : Ds} {w : World} (h : DW n w0 D d w) : D < w.heap.size := h.dk.lt
theorem DW.kd {n : Nat} {w0 : World} {D : Nat} {d d' : Ds} {w w' : World} (h : DW n w0 D d w) (k : Kd D w w') (h' : DK D d'.S d'.C d'.go d'.op d'.ar w') : DW n w0 D d' w' :=
  ⟨h', fun b q => by
    rcases Nat.lt_or_ge b w.heap.size with hb | hb
    · exact h.far b (k.ind b hb q)
    · exact Nat.le_trans h.sz hb, ⟨k.os.trans h.bel.os, k.tape.trans h.bel.tape, k.output.trans h.bel.output, Nat.le_trans h.bel.size k.size, fun b hb => (k.block b (Nat.lt_of_lt_of_le hb h.sz) (fun q => by have := h.far b q; omega)).trans (h.bel.block b hb)⟩, Nat.le_trans h.sz k.size⟩
theorem DW.below {n : Nat} {w0 : World} {D : Nat} {d : Ds} {w w' : World} (h : DW n w0 D d w) (hb : Below w.heap.size w w') : DW n w0 D d w' := h.kd (Kd.of_below hb h.lt) (h.dk.kept hb)
/-- few enough of all -/
structure DsOk (k : Nat) (d : Ds) : Prop where
  s1 : 16 ≤ d.S.length
  s2 : d.S.length ≤ 4096
  c : d.C.length ≤ 4096 + k
  a1 : 0 ≤ d.ar
  a2 : d.ar ≤ 9223372036854775807
  o1 : 0 ≤ d.op
  o2 : d.op ≤ (k : Int)
/-- a write -/
def Ds.wrE (d : Ds) (i : Int) (s : ByteArray) : Int := if d.go = true then 7 else if dckE d.S.length i s ≠ 0 then dckE d.S.length i s else stpE d.ar
def Ds.wrt (d : Ds) (i : Int) (s : ByteArray) : Ds := if d.go = true then d else if dckE d.S.length i s ≠ 0 then d else ⟨d.S, wrtC d.ar d.C i s, stpF d.ar, stpD d.ar, stpO d.op d.ar⟩
/-- a flush -/
def Ds.flE (d : Ds) : Int := if d.go = true then 7 else stpE d.ar
def Ds.fls (d : Ds) : Ds := if d.go = true then d else ⟨flsS d.ar d.S d.C, stpC d.ar d.C, stpF d.ar, stpD d.ar, stpO d.op d.ar⟩
def Ds.arm (d : Ds) (k : Int) : Ds := if armE d.go k = 0 then ⟨d.S, d.C, k, d.go, d.op⟩ else d
def Ds.crash (d : Ds) (ks : List Int) : Ds := ⟨setP (inK ks) 0 d.C d.S, [], 0, true, d.op⟩
def Ds.boot (d : Ds) : Ds := ⟨d.S, [], 0, false, d.op⟩
def Ds.over (d : Ds) (i : Int) (s : ByteArray) : Ds := ⟨overS d.S i s, d.C, d.ar, d.go, d.op⟩
def Ds.rdE (d : Ds) (i : Int) : Int := if d.go = true then 7 else if 0 ≤ i ∧ i < (d.S.length : Int) then 0 else 8
def Ds.rdS (d : Ds) (i : Int) : ByteArray := if d.rdE i = 0 then shw d.S d.C i else ⟨#[]⟩
def Ds.red (d : Ds) (i : Int) : Ds := if d.rdE i = 0 then ⟨d.S, d.C, d.ar, d.go, d.op + 1⟩ else d
theorem setP_none (C : List Wr) (k : Nat) (S : List ByteArray) : setP (inK []) k C S = S := by
  induction C generalizing k S with
  | nil => rfl
  | cons x r ih => exact ih _ _
theorem setP_all (C : List Wr) (k : Nat) (S : List ByteArray) : setP allK k C S = safeW S C := by
  induction C generalizing k S with
  | nil => rfl
  | cons x r ih => exact ih _ _
theorem stpF_bd {a : Int} (h1 : 0 ≤ a) (h2 : a ≤ 9223372036854775807) : 0 ≤ stpF a ∧ stpF a ≤ 9223372036854775807 := by unfold stpF; split <;> omega
theorem stpO_bd {o a : Int} : o ≤ stpO o a ∧ stpO o a ≤ o + 1 := by unfold stpO; split <;> omega
theorem DsOk.wrt {k : Nat} {d : Ds} (h : DsOk k d) (i : Int) (s : ByteArray) : DsOk (k + 1) (d.wrt i s) := by
  obtain ⟨h1, h2, h3, h4, h5, h6, h7⟩ := h
  have f := stpF_bd h4 h5
  have o := stpO_bd (o := d.op) (a := d.ar)
  unfold Ds.wrt
  split
  · exact ⟨h1, h2, by omega, h4, h5, h6, by omega⟩
  · split
    · exact ⟨h1, h2, by omega, h4, h5, h6, by omega⟩
    · refine ⟨h1, h2, ?_, f.1, f.2, by show 0 ≤ stpO _ _; omega, by show stpO _ _ ≤ _; omega⟩
      show (wrtC d.ar d.C i s).length ≤ _
      unfold wrtC
      split
      · omega
      · rw [List.length_append]; simp; omega
theorem flsS_len (a : Int) (S : List ByteArray) (C : List Wr) : (flsS a S C).length = S.length := by unfold flsS; split; rfl; exact setP_len _ _ _ _
theorem DsOk.fls {k : Nat} {d : Ds} (h : DsOk k d) : DsOk (k + 1) d.fls := by
  obtain ⟨h1, h2, h3, h4, h5, h6, h7⟩ := h
  have f := stpF_bd h4 h5
  have o := stpO_bd (o := d.op) (a := d.ar)
  have hl := flsS_len d.ar d.S d.C
  unfold Ds.fls
  split
  · exact ⟨h1, h2, by omega, h4, h5, h6, by omega⟩
  · refine ⟨by show 16 ≤ (flsS _ _ _).length; omega, by show (flsS _ _ _).length ≤ _; omega, ?_, f.1, f.2, by show 0 ≤ stpO _ _; omega, by show stpO _ _ ≤ _; omega⟩
    show (stpC d.ar d.C).length ≤ _
    unfold stpC
    split
    · omega
    · simp
theorem DsOk.arm {k : Nat} {d : Ds} (h : DsOk k d) (n : Int) (hn : n ≤ 9223372036854775807) : DsOk (k + 1) (d.arm n) := by
  obtain ⟨h1, h2, h3, h4, h5, h6, h7⟩ := h
  unfold Ds.arm
  split
  · next q =>
    have : ¬ n < 0 := fun e => by
      unfold armE at q
      by_cases hg : d.go = true
      · rw [if_pos hg] at q; cases q
      · rw [if_neg hg, if_pos e] at q; cases q
    exact ⟨h1, h2, by show d.C.length ≤ _; omega, by show 0 ≤ n; omega, hn, h6, by show d.op ≤ _; omega⟩
  · exact ⟨h1, h2, by omega, h4, h5, h6, by omega⟩
theorem DsOk.crash {k : Nat} {d : Ds} (h : DsOk k d) (ks : List Int) : DsOk (k + 1) (d.crash ks) := by
  have hl := setP_len (inK ks) d.C 0 d.S
  exact ⟨by show 16 ≤ (setP _ _ _ _).length; rw [hl]; exact h.s1, by show (setP _ _ _ _).length ≤ _; rw [hl]; exact h.s2, Nat.zero_le _, Int.le_refl _, by show (0 : Int) ≤ _; omega, h.o1, by have := h.o2; show d.op ≤ _; omega⟩
theorem DsOk.boot {k : Nat} {d : Ds} (h : DsOk k d) : DsOk (k + 1) d.boot := ⟨h.s1, h.s2, Nat.zero_le _, Int.le_refl _, by show (0 : Int) ≤ _; omega, h.o1, by have := h.o2; show d.op ≤ _; omega⟩
theorem overS_len (S : List ByteArray) (i : Int) (s : ByteArray) : (overS S i s).length = S.length := by unfold overS; split; rw [List.length_set]; rfl
theorem DsOk.over {k : Nat} {d : Ds} (h : DsOk k d) (i : Int) (s : ByteArray) : DsOk (k + 1) (d.over i s) := by
  have hl := overS_len d.S i s
  exact ⟨by show 16 ≤ (overS _ _ _).length; rw [hl]; exact h.s1, by show (overS _ _ _).length ≤ _; rw [hl]; exact h.s2, by have := h.c; show d.C.length ≤ _; omega, h.a1, h.a2, h.o1, by have := h.o2; show d.op ≤ _; omega⟩
theorem DsOk.red {k : Nat} {d : Ds} (h : DsOk k d) (i : Int) : DsOk (k + 1) (d.red i) := by
  unfold Ds.red
  split
  · exact ⟨h.s1, h.s2, by have := h.c; show d.C.length ≤ _; omega, h.a1, h.a2, by have := h.o1; show 0 ≤ d.op + 1; omega, by have := h.o2; show d.op + 1 ≤ _; omega⟩
  · exact ⟨h.s1, h.s2, by have := h.c; omega, h.a1, h.a2, h.o1, by have := h.o2; omega⟩
theorem DsOk.up {k : Nat} {d : Ds} (h : DsOk k d) : DsOk (k + 1) d := ⟨h.s1, h.s2, by have := h.c; omega, h.a1, h.a2, h.o1, by have := h.o2; omega⟩
/-- a number, and the disk then -/
def PI (n : Nat) (w0 : World) (D : Nat) (d : Ds) (z : Int) (w : World) (e : Ending) (w' : World) : Prop := e = .returned (.int .i64 z) ∧ DW n w0 D d w' ∧ Kd D w w'
section
variable {n : Nat} {w0 : World} {D : Nat} {d : Ds} {w : World} {k : Nat}
theorem pwrite (h : DW n w0 D d w) (o : DsOk k d) (hk : k ≤ 1000) (i : Int) (s : ByteArray) : Calls Tryz.prog 46 #[.pointer (some ⟨D, 0, none⟩), .int .i64 i, .string s] w (PI n w0 D (d.wrt i s) (d.wrE i s) w) := by
  obtain ⟨SS, CC, ar, go, op⟩ := d
  have hd : DK D SS CC go op ar w := h.dk
  have o1 : 0 ≤ op := o.o1
  have o2 : op ≤ (k : Int) := o.o2
  have hc : CC.length ≤ 4096 + k := o.c
  unfold Ds.wrt Ds.wrE
  dsimp only
  cases go with
  | true => exact (dwrite_down D SS CC op ar i s w hd).mono fun _ _ ⟨h1, h2, h3⟩ => ⟨h1, h.kd h3 h2, h3⟩
  | false =>
    rw [if_neg Bool.false_ne_true, if_neg Bool.false_ne_true]
    by_cases hq : dckE SS.length i s = 0
    · rw [if_neg (fun h => h hq), if_neg (fun h => h hq)]
      exact (dwrite_up D SS CC op ar i s w hd hq ⟨by omega, by omega⟩ ⟨o.a1, o.a2⟩ (by omega)).mono fun _ _ ⟨h1, h2, h3⟩ => ⟨h1, h.kd h3 h2, h3⟩
    · rw [if_pos hq, if_pos hq]
      exact (dwrite_no D SS CC op ar i s w hd hq).mono fun _ _ ⟨h1, h2, h3⟩ => ⟨h1, h.kd h3 h2, h3⟩
theorem pflush (h : DW n w0 D d w) (o : DsOk k d) (hk : k ≤ 1000) : Calls Tryz.prog 24 #[.pointer (some ⟨D, 0, none⟩)] w (PI n w0 D d.fls d.flE w) := by
  obtain ⟨SS, CC, ar, go, op⟩ := d
  have hd : DK D SS CC go op ar w := h.dk
  have o1 : 0 ≤ op := o.o1
  have o2 : op ≤ (k : Int) := o.o2
  unfold Ds.fls Ds.flE
  dsimp only
  cases go with
  | true => exact (dflush_down D SS CC op ar w hd).mono fun _ _ ⟨h1, h2, h3⟩ => ⟨h1, h.kd h3 h2, h3⟩
  | false =>
    rw [if_neg Bool.false_ne_true, if_neg Bool.false_ne_true]
    have e : flsS ar SS CC = stpS ar SS CC := by unfold flsS stpS; rw [setP_all]
    refine (dflush_up D SS CC op ar w hd ⟨by omega, by omega⟩ ⟨o.a1, o.a2⟩).mono fun _ w' ⟨h1, h2, h3⟩ => ⟨h1, h.kd h3 ?_, h3⟩
    show DK D (flsS ar SS CC) (stpC ar CC) (stpD ar) (stpO op ar) (stpF ar) w'
    rw [e]; exact h2
/-- a text and a number, and the disk then -/
def PSI (n : Nat) (w0 : World) (D : Nat) (d : Ds) (s : ByteArray) (z : Int) (w : World) (e : Ending) (w' : World) : Prop := e = .returned (.tuple #[.string s, .int .i64 z]) ∧ DW n w0 D d w' ∧ Kd D w w'
theorem pread (h : DW n w0 D d w) (o : DsOk k d) (hk : k ≤ 1000) (i : Int) : Calls Tryz.prog 29 #[.pointer (some ⟨D, 0, none⟩), .int .i64 i] w (PSI n w0 D (d.red i) (d.rdS i) (d.rdE i) w) := by
  obtain ⟨SS, CC, ar, go, op⟩ := d
  have hd : DK D SS CC go op ar w := h.dk
  have o1 : 0 ≤ op := o.o1
  have o2 : op ≤ (k : Int) := o.o2
  have hc : CC.length ≤ 4096 + k := o.c
  cases go with
  | true =>
    have e : Ds.rdE ⟨SS, CC, ar, true, op⟩ i = 7 := if_pos rfl
    unfold Ds.red Ds.rdS
    rw [e, if_neg (by decide), if_neg (by decide)]
    exact (dread_down D SS CC op ar i w hd).mono fun _ _ ⟨h1, h2⟩ => by subst h2; exact ⟨h1, h, Kd.refl _ _⟩
  | false =>
    by_cases hi : 0 ≤ i ∧ i < (SS.length : Int)
    · have e : Ds.rdE ⟨SS, CC, ar, false, op⟩ i = 0 := by unfold Ds.rdE; rw [if_neg Bool.false_ne_true, if_pos hi]
      unfold Ds.red Ds.rdS
      rw [e, if_pos rfl, if_pos rfl]
      exact (dread_up D SS CC op ar i w hd hi (by omega) ⟨by omega, by omega⟩).mono fun _ _ ⟨h1, h2, h3⟩ => ⟨h1, h.kd h3 h2, h3⟩
    · have e : Ds.rdE ⟨SS, CC, ar, false, op⟩ i = 8 := by unfold Ds.rdE; rw [if_neg Bool.false_ne_true, if_neg hi]
      unfold Ds.red Ds.rdS
      rw [e, if_neg (by decide), if_neg (by decide)]
      exact (dread_no D SS CC op ar i w hd hi).mono fun _ _ ⟨h1, h2⟩ => by subst h2; exact ⟨h1, h, Kd.refl _ _⟩
end
/-- the document's disk as a value: its rows -/
structure RV (P : Nat → Prop) (d : Ds) (A : Option Addr) (n : Nat) (A2 : Option Addr) (n2 : Nat) (w : World) : Prop where
  s : RdP P stC 1 w A n d.S
  c : RdP P wrC 2 w A2 n2 d.C
section
variable {P : Nat → Prop} {d : Ds} {A : Option Addr} {n c : Nat} {A2 : Option Addr} {n2 c2 : Nat} {w : World} {k : Nat}
theorem RV.ns (h : RV P d A n A2 n2 w) : d.S.length = n := h.s.1.1
theorem RV.nc (h : RV P d A n A2 n2 w) : d.C.length = n2 := h.c.1.1
end
end Go.Proofs.YtagenkofoacajaaGreatDoor
