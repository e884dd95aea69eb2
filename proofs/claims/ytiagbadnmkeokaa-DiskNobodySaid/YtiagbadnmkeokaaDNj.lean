/- The disk family, merged for a claim. Conditions as in its parts. -/
import Derived.Test.YtiagbadnmkeokaaDNi
namespace Go.Proofs.Ytiagbadnmkeokaa
open Go.RowKit Vi

theorem OwX.of_block {α : Type} {f : α → List Value} {s : Nat} {T : TypeId} {w W : World} {B n c : Nat} {A : Option Addr} {l : List α} (h : OwX f s T w B (.slice A n c) l) (hb : ∀ b o, A = some ⟨b, o, none⟩ → b < w.heap.size → W.heap[b]? = w.heap[b]?) : OwX f s T W B (.slice A n c) l := by
  rcases h with ⟨h1, h | ⟨b, cap, cur, h2, h3, h4, h5⟩⟩
  · exact ⟨h1, .inl h⟩
  · have e : A = some ⟨b, 0, none⟩ := by injection h2
    exact ⟨h1, .inr ⟨b, cap, cur, h2, h3, (hb b 0 e (lt_of_block h4)).trans h4, h5⟩⟩
theorem DK.kkN {D g : Nat} {SS : List ByteArray} {CC : List Wr} {dn : Bool} {ops fu : Int} {w w' : World} (h : DK D SS CC dn ops fu w) (k : KK [g] w w') (hn : ¬ InD D w g) : DK D SS CC dn ops fu w' := by
  obtain ⟨⟨sa, sn, sc, ca, cn, cc, h1, h2, h3⟩, h4⟩ := h
  have hD : D ≠ g := fun e => hn (.inl e.symm)
  refine ⟨⟨sa, sn, sc, ca, cn, cc, k.blk h1 (by simpa using hD), h2.of_block (fun b o e hb => k.block b hb (fun q => ?_)), h3.of_block (fun b o e hb => k.block b hb (fun q => ?_))⟩, h4⟩
  · obtain rfl : b = g := by simpa using q
    subst e
    exact hn (InD.safe h1)
  · obtain rfl : b = g := by simpa using q
    subst e
    exact hn (InD.cache h1)
theorem DW.kkN {n : Nat} {w0 : World} {D g : Nat} {d : Ds} {w w' : World} (h : DW n w0 D d w) (k : KK [g] w w') (hng : ¬ InD D w g) (hn : n ≤ g) : DW n w0 D d w' :=
  ⟨h.dk.kkN k hng, fun b q => h.far b (q.kk k h.lt (fun e => hng (.inl e.symm))), k.below h.bel (fun b hb => by obtain rfl : b = g := (by simpa using hb); exact hn) h.sz, Nat.le_trans h.sz k.size⟩
theorem OwX.some0 {α : Type} {f : α → List Value} {s : Nat} {T : TypeId} {w : World} {B n c : Nat} {A : Option Addr} {l : List α} (h : OwX f s T w B (.slice A n c) l) (hn : 0 < n) : ∃ g, A = some ⟨g, 0, none⟩ := by
  rcases h with ⟨_, h | ⟨b, cap, cur, h2, _⟩⟩
  · have e := h.1
    injection e with _ e _
    omega
  · exact ⟨b, by injection h2⟩
/-- an image of one's own in box y, its texts in row g -/
structure Wn (D y g B0 c : Nat) (B : Option Addr) (k : Nat) (Sx : List ByteArray) (W : World) : Prop where
  yb : W.heap[y]? = some (.cells #[.slice (some ⟨g, 0, none⟩) 17 c, .slice B 0 k] 32 (0, 0))
  ny : ¬ InD D W y
  ow : OwX stC 1 9 W B0 (.slice (some ⟨g, 0, none⟩) 17 c) Sx
  ng : ¬ InD D W g
  yg : y ≠ g
section
variable {D y g B0 c : Nat} {B : Option Addr} {k : Nat} {Sx : List ByteArray} {W W' : World}
theorem Wn.len (h : Wn D y g B0 c B k Sx W) : Sx.length = 17 := by
  obtain ⟨_, _, e, hr, _, _⟩ := h.ow.rd stC_len
  injection e with _ e _
  exact e.symm
theorem Wn.lt (h : Wn D y g B0 c B k Sx W) : g < W.heap.size := own_lt h.ow
theorem Wn.prog (h : Wn D y g B0 c B k Sx W) (q : Kd D W W') : Wn D y g B0 c B k Sx W' :=
  ⟨(q.block _ (lt_of_block h.yb) h.ny).trans h.yb, fun e => h.ny (q.ind _ (lt_of_block h.yb) e), h.ow.of_block (fun b o e hb => q.block b hb (by injection e with e; injection e with e _ _; subst e; exact h.ng)), fun e => h.ng (q.ind _ h.lt e), h.yg⟩
theorem Wn.kept (h : Wn D y g B0 c B k Sx W) (hb : Below W.heap.size W W') (hD : D < W.heap.size) : Wn D y g B0 c B k Sx W' := h.prog (Kd.of_below hb hD)
theorem Wn.row (h : Wn D y g B0 c B k Sx W) : RdX stC 1 W (some ⟨g, 0, none⟩) 17 Sx := by
  obtain ⟨A', c', e, hr, _, _⟩ := h.ow.rd stC_len
  injection e with e1 e2 e3
  rw [e1, e2]
  exact hr
theorem Wn.cell (h : Wn D y g B0 c B k Sx W) {p : Nat} (hp : p < 17) : (∃ u, W.cell? ⟨g, p, none⟩ = some (.string u)) ∧ W.frozen? ⟨g, p, none⟩ = false := by
  constructor
  · obtain ⟨b, off, e, _, hc⟩ := h.row.2 (by omega)
    injection e with e
    injection e with e1 e2 e3
    subst e1 e2
    have q := hc p (Sx[p]'(by rw [h.len]; omega)) 0 _ (List.getElem?_eq_getElem (by rw [h.len]; omega)) rfl
    exact ⟨_, by simpa using q⟩
  · rcases h.ow with ⟨_, q | ⟨b, cap, cur, h2, h3, h4, h5⟩⟩
    · have e := q.1
      cases e
    · injection h2 with e _ _
      injection e with e
      injection e with e _ _
      subst e
      exact frozen_of_row _ _ _ _ _ h4
theorem Wn.set (h : Wn D y g B0 c B k Sx W) (hD : D < W.heap.size) (p : Nat) (s : ByteArray) : Wn D y g B0 c B k (Sx.set p s) (W.setCell ⟨g, p, none⟩ (.string s)) := by
  have kk := (KK.refl [g] W).set (b := g) (by simp) p (.string s)
  have hne : D ≠ g := fun e => h.ng (.inl e.symm)
  exact ⟨kk.blk h.yb (by simpa using h.yg), fun e => h.ny (e.kk kk hD hne), h.ow.setS s, fun e => h.ng (e.kk kk hD hne), h.yg⟩
end
theorem DsOk.le {k k' : Nat} {d : Ds} (h : DsOk k d) (hk : k ≤ k') : DsOk k' d := ⟨h.s1, h.s2, by have := h.c; omega, h.a1, h.a2, h.o1, by have := h.o2; omega⟩
theorem act_len (d : Ds) (a : Ac) : (d.act a).S.length = d.S.length := by
  unfold Ds.act
  split
  · unfold Ds.wrt
    split
    · rfl
    · split <;> rfl
  · split
    · unfold Ds.red
      split <;> rfl
    · split
      · unfold Ds.fls
        split
        · rfl
        · exact flsS_len _ _ _
      · split
        · unfold Ds.arm
          split <;> rfl
        · split
          · exact setP_len _ _ _ _
          · split
            · rfl
            · split
              · exact overS_len _ _ _
              · rfl
theorem fls_boot (d : Ds) : d.boot.flE = 0 ∧ d.boot.fls = ⟨d.S, [], 0, false, d.op + 1⟩ := by
  constructor
  · simp [Ds.flE, Ds.boot, stpE]
  · simp [Ds.fls, Ds.boot, flsS, setP, stpC, stpF, stpD, stpO]
    decide
theorem wr_ok {S : List ByteArray} {C : List Wr} {op i : Int} {s : ByteArray} (e : dckE S.length i s = 0) : Ds.wrE ⟨S, C, 0, false, op⟩ i s = 0 ∧ Ds.wrt ⟨S, C, 0, false, op⟩ i s = ⟨S, C ++ [(i, s)], 0, false, op + 1⟩ := by
  constructor
  · simp [Ds.wrE, e, stpE]
  · simp [Ds.wrt, e, wrtC, stpF, stpD, stpO]
    decide
theorem wr_bad {S : List ByteArray} {C : List Wr} {op i : Int} {s : ByteArray} (e : dckE S.length i s ≠ 0) : Ds.wrE ⟨S, C, 0, false, op⟩ i s = dckE S.length i s ∧ Ds.wrt ⟨S, C, 0, false, op⟩ i s = ⟨S, C, 0, false, op⟩ := by
  constructor
  · simp [Ds.wrE, e]
  · simp [Ds.wrt, e]
/-- what is wanted: with the write, or without -/
def wantS (b : Bool) (S : List ByteArray) (p : Nat) (s : ByteArray) : List ByteArray := if b = true then S.set p s else S
theorem wantS_step {b : Bool} {S : List ByteArray} {p : Nat} {s : ByteArray} : (wantS b S p s).set p s = wantS true S p s := by
  unfold wantS
  cases b <;> simp
theorem inK_snoc (ks : List Int) (q t : Nat) (ht : t < ks.length) : inK (ks.take (t + 1)) q = (inK (ks.take t) q || ks[t] == (q : Int)) := any_snocF _ ks t ht
theorem setP_want (ks : List Int) (C : List Wr) (S : List ByteArray) (p : Nat) (s : ByteArray) : setP (inK ks) 0 (C ++ [((p : Int), s)]) S = wantS (inK ks C.length) (setP (inK ks) 0 C S) p s := by
  rw [setP_snoc]
  unfold wantS
  simp
end Go.Proofs.Ytiagbadnmkeokaa
