/- Graphs as data: what is few, what is wrong, what is the same. Conditions: texts that are no longer than a text may be. -/
import Derived.Test.YtagenkofoacajaaGreatOpa
import Derived.IntWalk
import Derived.Lib.MinMax
import Derived.Test.YtagenkofoacajaaGreatSh
namespace Go.Proofs.YtagenkofoacajaaGreat
open Go.RowKit Vi

/-- a slice's value -/
structure SlA where
  a : Option Addr
  n : Nat
  c : Nat
def slV (x : SlA) : Value := .slice x.a x.n x.c
abbrev Nd := ByteArray × List ByteArray × List Pr
abbrev Ed := ByteArray × ByteArray × ByteArray × List ByteArray × List Pr
abbrev NdR := ByteArray × SlA × SlA
abbrev EdR := ByteArray × ByteArray × ByteArray × SlA × SlA
def ndC (x : NdR) : List Value := [.string x.1, slV x.2.1, slV x.2.2]
def edC (x : EdR) : List Value := [.string x.1, .string x.2.1, .string x.2.2.1, slV x.2.2.2.1, slV x.2.2.2.2]
theorem ndC_len (x : NdR) : (ndC x).length = 3 := rfl
theorem edC_len (x : EdR) : (edC x).length = 5 := rfl
theorem ndC_one (x : NdR) : ∀ u ∈ ndC x, u.oneCell' = true := by
  intro u hu
  simp [ndC, slV] at hu
  rcases hu with rfl | rfl | rfl <;> rfl
theorem edC_one (x : EdR) : ∀ u ∈ edC x, u.oneCell' = true := by
  intro u hu
  simp [edC, slV] at hu
  rcases hu with rfl | rfl | rfl | rfl | rfl <;> rfl
/-- what a raw node reads as -/
structure NdIs (w : World) (r : NdR) (x : Nd) : Prop where
  id : r.1 = x.1
  p : LP w r.2.1.a r.2.1.n x.2.1 r.2.2.a r.2.2.n x.2.2
  cl : r.2.1.n ≤ r.2.1.c ∧ r.2.1.c ≤ maxLen
  cp : r.2.2.n ≤ r.2.2.c ∧ r.2.2.c ≤ maxLen
structure EdIs (w : World) (r : EdR) (x : Ed) : Prop where
  id : r.1 = x.1
  fr : r.2.1 = x.2.1
  dst : r.2.2.1 = x.2.2.1
  p : LP w r.2.2.2.1.a r.2.2.2.1.n x.2.2.2.1 r.2.2.2.2.a r.2.2.2.2.n x.2.2.2.2
  cl : r.2.2.2.1.n ≤ r.2.2.2.1.c ∧ r.2.2.2.1.c ≤ maxLen
  cp : r.2.2.2.2.n ≤ r.2.2.2.2.c ∧ r.2.2.2.2.c ≤ maxLen
structure NdsIs (w : World) (R : List NdR) (X : List Nd) : Prop where
  len : R.length = X.length
  at' : ∀ (k : Nat) r x, R[k]? = some r → X[k]? = some x → NdIs w r x
structure EdsIs (w : World) (R : List EdR) (X : List Ed) : Prop where
  len : R.length = X.length
  at' : ∀ (k : Nat) r x, R[k]? = some r → X[k]? = some x → EdIs w r x
theorem NdIs.below {w w' : World} {r : NdR} {x : Nd} (h : NdIs w r x) (hb : Below w.heap.size w w') : NdIs w' r x := ⟨h.id, h.p.below hb, h.cl, h.cp⟩
theorem EdIs.below {w w' : World} {r : EdR} {x : Ed} (h : EdIs w r x) (hb : Below w.heap.size w w') : EdIs w' r x := ⟨h.id, h.fr, h.dst, h.p.below hb, h.cl, h.cp⟩
theorem NdsIs.below {w w' : World} {R : List NdR} {X : List Nd} (h : NdsIs w R X) (hb : Below w.heap.size w w') : NdsIs w' R X := ⟨h.len, fun k r x h1 h2 => (h.at' k r x h1 h2).below hb⟩
theorem EdsIs.below {w w' : World} {R : List EdR} {X : List Ed} (h : EdsIs w R X) (hb : Below w.heap.size w w') : EdsIs w' R X := ⟨h.len, fun k r x h1 h2 => (h.at' k r x h1 h2).below hb⟩
theorem NdsIs.nil (w : World) : NdsIs w [] [] := ⟨rfl, fun k r x h _ => by simp at h⟩
theorem EdsIs.nil (w : World) : EdsIs w [] [] := ⟨rfl, fun k r x h _ => by simp at h⟩
/-- labels and properties of one's own -/
structure PO (w : World) (a b : SlA) (ss : List ByteArray) (ps : List Pr) : Prop where
  l : OwX stC 1 9 w 0 (slV a) ss
  p : OwX prC 4 92 w 0 (slV b) ps
theorem PO.below {w w' : World} {a b : SlA} {ss : List ByteArray} {ps : List Pr} (h : PO w a b ss ps) (hb : Below w.heap.size w w') : PO w' a b ss ps := ⟨h.l.kept hb, h.p.kept hb⟩
theorem PO.lp {w : World} {a b : SlA} {ss : List ByteArray} {ps : List Pr} (h : PO w a b ss ps) : LP w a.a a.n ss b.a b.n ps := by
  obtain ⟨A, c, e, r, _, _⟩ := h.l.rd stC_len
  obtain ⟨A2, c2, e2, r2, _, _⟩ := h.p.rd prC_len
  unfold slV at e e2
  injection e with e3 e4 e5
  injection e2 with e6 e7 e8
  rw [e3, e4, e6, e7]
  exact ⟨sln_c r, r2⟩
theorem PO.caps {w : World} {a b : SlA} {ss : List ByteArray} {ps : List Pr} (h : PO w a b ss ps) : (a.n ≤ a.c ∧ a.c ≤ maxLen) ∧ (b.n ≤ b.c ∧ b.c ≤ maxLen) := by
  obtain ⟨A, c, e, r, q1, q2⟩ := h.l.rd stC_len
  obtain ⟨A2, c2, e2, r2, q3, q4⟩ := h.p.rd prC_len
  unfold slV at e e2
  injection e with e3 e4 e5
  injection e2 with e6 e7 e8
  rw [e4, e5, e7, e8]
  exact ⟨⟨q1, q2⟩, ⟨q3, q4⟩⟩
theorem PO.nil (w : World) : PO w ⟨none, 0, 0⟩ ⟨none, 0, 0⟩ [] [] := ⟨OwX.nil w, OwX.nil w⟩
/-- a row of nodes is appended to: what nodes have stays -/
theorem PO.other {β : Type} {g : β → List Value} {s' : Nat} {T' : TypeId} {w w' : World} {B' : Nat} {v2 : Value} {l2 : List β} {a b : SlA} {ss : List ByteArray} {ps : List Pr} (h : PO w a b ss ps) (k : OwX g s' T' w B' v2 l2) (h1 : 9 ≠ T') (h2 : 92 ≠ T') (hg : w.grownBy w' v2.ownBlock) : PO w' a b ss ps :=
  ⟨h.l.other k h1 hg, h.p.other k h2 hg⟩
structure NdsOwn (w : World) (R : List NdR) (X : List Nd) : Prop where
  len : R.length = X.length
  at' : ∀ (k : Nat) r x, R[k]? = some r → X[k]? = some x → r.1 = x.1 ∧ PO w r.2.1 r.2.2 x.2.1 x.2.2
structure EdsOwn (w : World) (R : List EdR) (X : List Ed) : Prop where
  len : R.length = X.length
  at' : ∀ (k : Nat) r x, R[k]? = some r → X[k]? = some x → r.1 = x.1 ∧ r.2.1 = x.2.1 ∧ r.2.2.1 = x.2.2.1 ∧ PO w r.2.2.2.1 r.2.2.2.2 x.2.2.2.1 x.2.2.2.2
theorem NdsOwn.is {w : World} {R : List NdR} {X : List Nd} (h : NdsOwn w R X) : NdsIs w R X := ⟨h.len, fun k r x h1 h2 => ⟨(h.at' k r x h1 h2).1, (h.at' k r x h1 h2).2.lp, (h.at' k r x h1 h2).2.caps.1, (h.at' k r x h1 h2).2.caps.2⟩⟩
theorem EdsOwn.is {w : World} {R : List EdR} {X : List Ed} (h : EdsOwn w R X) : EdsIs w R X := ⟨h.len, fun k r x h1 h2 => ⟨(h.at' k r x h1 h2).1, (h.at' k r x h1 h2).2.1, (h.at' k r x h1 h2).2.2.1, (h.at' k r x h1 h2).2.2.2.lp, (h.at' k r x h1 h2).2.2.2.caps.1, (h.at' k r x h1 h2).2.2.2.caps.2⟩⟩
theorem NdsOwn.nil (w : World) : NdsOwn w [] [] := ⟨rfl, fun k r x h _ => by simp at h⟩
theorem EdsOwn.nil (w : World) : EdsOwn w [] [] := ⟨rfl, fun k r x h _ => by simp at h⟩
theorem NdsOwn.below {w w' : World} {R : List NdR} {X : List Nd} (h : NdsOwn w R X) (hb : Below w.heap.size w w') : NdsOwn w' R X := ⟨h.len, fun k r x h1 h2 => ⟨(h.at' k r x h1 h2).1, (h.at' k r x h1 h2).2.below hb⟩⟩
theorem EdsOwn.below {w w' : World} {R : List EdR} {X : List Ed} (h : EdsOwn w R X) (hb : Below w.heap.size w w') : EdsOwn w' R X := ⟨h.len, fun k r x h1 h2 => ⟨(h.at' k r x h1 h2).1, (h.at' k r x h1 h2).2.1, (h.at' k r x h1 h2).2.2.1, (h.at' k r x h1 h2).2.2.2.below hb⟩⟩
theorem NdsOwn.other {β : Type} {g : β → List Value} {s' : Nat} {T' : TypeId} {w w' : World} {B' : Nat} {v2 : Value} {l2 : List β} {R : List NdR} {X : List Nd} (h : NdsOwn w R X) (k : OwX g s' T' w B' v2 l2) (q1 : 9 ≠ T') (q2 : 92 ≠ T') (hg : w.grownBy w' v2.ownBlock) : NdsOwn w' R X :=
  ⟨h.len, fun i r x h1 h2 => ⟨(h.at' i r x h1 h2).1, (h.at' i r x h1 h2).2.other k q1 q2 hg⟩⟩
theorem EdsOwn.other {β : Type} {g : β → List Value} {s' : Nat} {T' : TypeId} {w w' : World} {B' : Nat} {v2 : Value} {l2 : List β} {R : List EdR} {X : List Ed} (h : EdsOwn w R X) (k : OwX g s' T' w B' v2 l2) (q1 : 9 ≠ T') (q2 : 92 ≠ T') (hg : w.grownBy w' v2.ownBlock) : EdsOwn w' R X :=
  ⟨h.len, fun i r x h1 h2 => ⟨(h.at' i r x h1 h2).1, (h.at' i r x h1 h2).2.1, (h.at' i r x h1 h2).2.2.1, (h.at' i r x h1 h2).2.2.2.other k q1 q2 hg⟩⟩
theorem snoc_at {α β : Type} {R : List α} {X : List β} {P : α → β → Prop} (hl : R.length = X.length) (h : ∀ (k : Nat) r x, R[k]? = some r → X[k]? = some x → P r x) {r0 : α} {x0 : β} (h0 : P r0 x0) : ∀ (k : Nat) r x, (R ++ [r0])[k]? = some r → (X ++ [x0])[k]? = some x → P r x := by
  intro k r x h1 h2
  by_cases hk : k < R.length
  · rw [List.getElem?_append_left hk] at h1
    rw [List.getElem?_append_left (by omega)] at h2
    exact h k r x h1 h2
  · rw [List.getElem?_append_right (by omega)] at h1
    rw [List.getElem?_append_right (by omega)] at h2
    have e1 : k - R.length = 0 := by
      have := (List.getElem?_eq_some_iff.1 h1).1
      simp at this
      omega
    rw [e1] at h1
    rw [show k - X.length = 0 by omega] at h2
    simp at h1 h2
    subst h1 h2
    exact h0
theorem NdsOwn.snoc {w : World} {R : List NdR} {X : List Nd} (h : NdsOwn w R X) {r : NdR} {x : Nd} (h1 : r.1 = x.1) (h2 : PO w r.2.1 r.2.2 x.2.1 x.2.2) : NdsOwn w (R ++ [r]) (X ++ [x]) :=
  ⟨by simp [h.len], snoc_at (P := fun (r : NdR) (x : Nd) => r.1 = x.1 ∧ PO w r.2.1 r.2.2 x.2.1 x.2.2) h.len h.at' ⟨h1, h2⟩⟩
theorem EdsOwn.snoc {w : World} {R : List EdR} {X : List Ed} (h : EdsOwn w R X) {r : EdR} {x : Ed} (h1 : r.1 = x.1) (h3 : r.2.1 = x.2.1) (h4 : r.2.2.1 = x.2.2.1) (h2 : PO w r.2.2.2.1 r.2.2.2.2 x.2.2.2.1 x.2.2.2.2) : EdsOwn w (R ++ [r]) (X ++ [x]) :=
  ⟨by simp [h.len], snoc_at (P := fun (r : EdR) (x : Ed) => r.1 = x.1 ∧ r.2.1 = x.2.1 ∧ r.2.2.1 = x.2.2.1 ∧ PO w r.2.2.2.1 r.2.2.2.2 x.2.2.2.1 x.2.2.2.2) h.len h.at' ⟨h1, h3, h4, h2⟩⟩
theorem info_ndB : (Tryz.prog.info? 32).map (fun i => (i.zero, i.size, i.bytes)) = some (some (.agg #[.string ⟨#[]⟩, .slice none 0 0, .slice none 0 0]), 3, 64) := by kernel_rfl
theorem info_edB : (Tryz.prog.info? 36).map (fun i => (i.zero, i.size, i.bytes)) = some (some (.agg #[.string ⟨#[]⟩, .string ⟨#[]⟩, .string ⟨#[]⟩, .slice none 0 0, .slice none 0 0]), 5, 96) := by kernel_rfl
end Go.Proofs.YtagenkofoacajaaGreat

namespace Go.Proofs.YtagenkofoacajaaGreat
open Go.RowKit Vi

def ndSm (X : List Nd) : Prop := ∀ x ∈ X, x.2.1.length ≤ 1000000 ∧ x.2.2.length ≤ 1000000
def edSm (X : List Ed) : Prop := ∀ x ∈ X, x.2.2.2.1.length ≤ 1000000 ∧ x.2.2.2.2.length ≤ 1000000
/-- a graph's two slices, and what they read as -/
structure GrIs (w : World) (A : Option Addr) (n : Nat) (A2 : Option Addr) (n2 : Nat) (X : List Nd) (Y : List Ed) : Prop where
  nd : ∃ R, RdX ndC 3 w A n R ∧ NdsIs w R X
  ed : ∃ R, RdX edC 5 w A2 n2 R ∧ EdsIs w R Y
theorem GrIs.below {w w' : World} {A : Option Addr} {n : Nat} {A2 : Option Addr} {n2 : Nat} {X : List Nd} {Y : List Ed} (h : GrIs w A n A2 n2 X Y) (hb : Below w.heap.size w w') : GrIs w' A n A2 n2 X Y := by
  obtain ⟨⟨R, h1, h2⟩, ⟨R2, h3, h4⟩⟩ := h
  exact ⟨⟨R, h1.below hb, h2.below hb⟩, ⟨R2, h3.below hb, h4.below hb⟩⟩
theorem GrIs.nl {w : World} {A : Option Addr} {n : Nat} {A2 : Option Addr} {n2 : Nat} {X : List Nd} {Y : List Ed} (h : GrIs w A n A2 n2 X Y) : n = X.length ∧ n2 = Y.length := by
  obtain ⟨⟨R, h1, h2⟩, ⟨R2, h3, h4⟩⟩ := h
  exact ⟨by rw [← h1.1, h2.len], by rw [← h3.1, h4.len]⟩
theorem GrIs.node {w : World} {A : Option Addr} {n : Nat} {A2 : Option Addr} {n2 : Nat} {X : List Nd} {Y : List Ed} (h : GrIs w A n A2 n2 X Y) {k : Nat} (hk : k < n) {x : Nd} (hx : X[k]? = some x) : ∃ (b off : Nat) (B : Option Addr) (c d : Nat) (B2 : Option Addr), A = some ⟨b, off, none⟩ ∧ w.cell? ⟨b, off + k * 3, none⟩ = some (.string x.1) ∧ w.cell? ⟨b, off + k * 3 + 1, none⟩ = some (.slice B x.2.1.length c) ∧ w.cell? ⟨b, off + k * 3 + 2, none⟩ = some (.slice B2 x.2.2.length d) ∧ LP w B x.2.1.length x.2.1 B2 x.2.2.length x.2.2 := by
  obtain ⟨⟨R, h1, h2⟩, _⟩ := h
  obtain ⟨b, off, hl, rfl, _, hc⟩ := h1.at hk
  have hi := h2.at' k R[k] x (List.getElem?_eq_getElem hl) hx
  obtain ⟨r, hr⟩ : ∃ r, R[k] = r := ⟨_, rfl⟩
  rw [hr] at hi hc
  obtain ⟨i, ⟨B, m, c⟩, ⟨B2, m2, d⟩⟩ := r
  have e1 : i = x.1 := hi.id
  have e2 : x.2.1.length = m := hi.p.l.1
  have e3 : x.2.2.length = m2 := hi.p.p.1
  have hp := hi.p
  subst e1 e2 e3
  exact ⟨b, off, B, c, d, B2, rfl, hc 0 _ rfl, hc 1 _ rfl, hc 2 _ rfl, hp⟩
theorem GrIs.nodeC {w : World} {A : Option Addr} {n : Nat} {A2 : Option Addr} {n2 : Nat} {X : List Nd} {Y : List Ed} (h : GrIs w A n A2 n2 X Y) {k : Nat} (hk : k < n) {x : Nd} (hx : X[k]? = some x) : ∃ (b off : Nat) (B : Option Addr) (c d : Nat) (B2 : Option Addr), A = some ⟨b, off, none⟩ ∧ w.cell? ⟨b, off + k * 3, none⟩ = some (.string x.1) ∧ w.cell? ⟨b, off + k * 3 + 1, none⟩ = some (.slice B x.2.1.length c) ∧ w.cell? ⟨b, off + k * 3 + 2, none⟩ = some (.slice B2 x.2.2.length d) ∧ LP w B x.2.1.length x.2.1 B2 x.2.2.length x.2.2 ∧ (x.2.1.length ≤ c ∧ c ≤ maxLen) ∧ (x.2.2.length ≤ d ∧ d ≤ maxLen) := by
  obtain ⟨⟨R, h1, h2⟩, _⟩ := h
  obtain ⟨b, off, hl, rfl, _, hc⟩ := h1.at hk
  have hi := h2.at' k R[k] x (List.getElem?_eq_getElem hl) hx
  obtain ⟨r, hr⟩ : ∃ r, R[k] = r := ⟨_, rfl⟩
  rw [hr] at hi hc
  obtain ⟨i, ⟨B, m, c⟩, ⟨B2, m2, d⟩⟩ := r
  have e1 : i = x.1 := hi.id
  have e2 : x.2.1.length = m := hi.p.l.1
  have e3 : x.2.2.length = m2 := hi.p.p.1
  have hp := hi.p
  have hq := hi.cl
  have hs := hi.cp
  subst e1 e2 e3
  exact ⟨b, off, B, c, d, B2, rfl, hc 0 _ rfl, hc 1 _ rfl, hc 2 _ rfl, hp, hq, hs⟩
theorem GrIs.edge {w : World} {A : Option Addr} {n : Nat} {A2 : Option Addr} {n2 : Nat} {X : List Nd} {Y : List Ed} (h : GrIs w A n A2 n2 X Y) {k : Nat} (hk : k < n2) {x : Ed} (hx : Y[k]? = some x) : ∃ (b off : Nat) (B : Option Addr) (c d : Nat) (B2 : Option Addr), A2 = some ⟨b, off, none⟩ ∧ w.cell? ⟨b, off + k * 5, none⟩ = some (.string x.1) ∧ w.cell? ⟨b, off + k * 5 + 1, none⟩ = some (.string x.2.1) ∧ w.cell? ⟨b, off + k * 5 + 2, none⟩ = some (.string x.2.2.1) ∧ w.cell? ⟨b, off + k * 5 + 3, none⟩ = some (.slice B x.2.2.2.1.length c) ∧ w.cell? ⟨b, off + k * 5 + 4, none⟩ = some (.slice B2 x.2.2.2.2.length d) ∧ LP w B x.2.2.2.1.length x.2.2.2.1 B2 x.2.2.2.2.length x.2.2.2.2 := by
  obtain ⟨_, ⟨R, h1, h2⟩⟩ := h
  obtain ⟨b, off, hl, rfl, _, hc⟩ := h1.at hk
  have hi := h2.at' k R[k] x (List.getElem?_eq_getElem hl) hx
  obtain ⟨r, hr⟩ : ∃ r, R[k] = r := ⟨_, rfl⟩
  rw [hr] at hi hc
  obtain ⟨i, f, g, ⟨B, m, c⟩, ⟨B2, m2, d⟩⟩ := r
  have e1 : i = x.1 := hi.id
  have e4 : f = x.2.1 := hi.fr
  have e5 : g = x.2.2.1 := hi.dst
  have e2 : x.2.2.2.1.length = m := hi.p.l.1
  have e3 : x.2.2.2.2.length = m2 := hi.p.p.1
  have hp := hi.p
  subst e1 e2 e3 e4 e5
  exact ⟨b, off, B, c, d, B2, rfl, hc 0 _ rfl, hc 1 _ rfl, hc 2 _ rfl, hc 3 _ rfl, hc 4 _ rfl, hp⟩
set_option maxRecDepth 100000 in
set_option maxHeartbeats 4000000 in
theorem same26_yes (A A2 B B2 : Option Addr) (n c n2 c2 d d2 : Nat) (X : List Nd) (Y : List Ed) (w : World) (h : GrIs w A n A2 n2 X Y) (h2 : GrIs w B n B2 n2 X Y) (hn : n ≤ 1000000) (hn2 : n2 ≤ 1000000) (hx : ndSm X) (hy : edSm Y) :
    Calls Tryz.prog 26 #[.agg #[.slice A n c, .slice A2 n2 c2], .agg #[.slice B n d, .slice B2 n2 d2]] w fun e w' => e = .returned (.bool true) ∧ Below w.heap.size w w' := by
  have H := Lib.hid h
  have H2 := Lib.hid h2
  have HX := Lib.hid hx
  have HY := Lib.hid hy
  have HL := Lib.hid h.nl
  clear h h2 hx hy
  have HB1 := Lib.hid (Below.refl w.heap.size w)
  go_enter Tryz.func26, Tryz.ntmps26
  have HF2 := Lib.hid (blk_new w (.cells #[.slice A n c, .slice A2 n2 c2] 25 (0, 0)))
  have HB3 := Lib.hid (HB1.out.alloc HB1.out.size (.cells #[.slice A n c, .slice A2 n2 c2] 25 (0, 0)))
  clear HB1
  have HF4 := Lib.hid (blk_alloc HF2.out (.cells #[.slice B n d, .slice B2 n2 d2] 25 (0, 0)))
  clear HF2
  have HF5 : Hid (((w.alloc (.cells #[.slice A n c, .slice A2 n2 c2] 25 (0, 0))).alloc (.cells #[.slice B n d, .slice B2 n2 d2] 25 (0, 0))).heap[w.heap.size + 1]? = some (.cells #[.slice B n d, .slice B2 n2 d2] 25 (0, 0))) := Lib.hid (blk_newN (W := (w.alloc (.cells #[.slice A n c, .slice A2 n2 c2] 25 (0, 0)))) (o := (.cells #[.slice B n d, .slice B2 n2 d2] 25 (0, 0))) (by simp))
  have HB6 := Lib.hid (HB3.out.alloc (by have := HB3.out.size; simp at this ⊢ <;> omega) (.cells #[.slice B n d, .slice B2 n2 d2] 25 (0, 0)))
  clear HB3
  have hc7 : ((w.alloc (.cells #[.slice A n c, .slice A2 n2 c2] 25 (0, 0))).alloc (.cells #[.slice B n d, .slice B2 n2 d2] 25 (0, 0))).cell? ⟨w.heap.size, 0, none⟩ = some (.slice A n c) := by rw [cell_of_row _ _ _ _ _ _ HF4.out]; rfl
  have hc8 : ((w.alloc (.cells #[.slice A n c, .slice A2 n2 c2] 25 (0, 0))).alloc (.cells #[.slice B n d, .slice B2 n2 d2] 25 (0, 0))).cell? ⟨w.heap.size, 1, none⟩ = some (.slice A2 n2 c2) := by rw [cell_of_row _ _ _ _ _ _ HF4.out]; rfl
  have hc9 : ((w.alloc (.cells #[.slice A n c, .slice A2 n2 c2] 25 (0, 0))).alloc (.cells #[.slice B n d, .slice B2 n2 d2] 25 (0, 0))).cell? ⟨w.heap.size + 1, 0, none⟩ = some (.slice B n d) := by rw [cell_of_row _ _ _ _ _ _ HF5.out]; rfl
  have hc10 : ((w.alloc (.cells #[.slice A n c, .slice A2 n2 c2] 25 (0, 0))).alloc (.cells #[.slice B n d, .slice B2 n2 d2] 25 (0, 0))).cell? ⟨w.heap.size + 1, 1, none⟩ = some (.slice B2 n2 d2) := by rw [cell_of_row _ _ _ _ _ _ HF5.out]; rfl
  go_wp2_with fail
  clear hc7 hc8 hc9 hc10
  go_loopw [5] (fun i wr => ∃ k : Nat, i = .int .i64 (k : Int) ∧ k ≤ n ∧ Below w.heap.size w wr ∧ wr.heap[w.heap.size]? = some (.cells #[.slice A n c, .slice A2 n2 c2] 25 (0, 0)) ∧ wr.heap[w.heap.size + 1]? = some (.cells #[.slice B n d, .slice B2 n2 d2] 25 (0, 0))) (fun i _ => n - (intOf i).toNat)
  case atStart => exact ⟨0, rfl, Nat.zero_le _, HB6.out, HF4.out, HF5.out⟩
  case round =>
    obtain ⟨k, rfl, hk, hb, ha1, hb1⟩ := hrel
    have HB := Lib.hid hb
    have HA1 := Lib.hid ha1
    have HB1 := Lib.hid hb1
    clear hb ha1 hb1
    have ca0 : wr.cell? ⟨w.heap.size, 0, none⟩ = some (.slice A n c) := by rw [cell_of_row _ _ _ _ _ _ HA1.out]; rfl
    have ca1 : wr.cell? ⟨w.heap.size, 1, none⟩ = some (.slice A2 n2 c2) := by rw [cell_of_row _ _ _ _ _ _ HA1.out]; rfl
    have cb0 : wr.cell? ⟨w.heap.size + 1, 0, none⟩ = some (.slice B n d) := by rw [cell_of_row _ _ _ _ _ _ HB1.out]; rfl
    have cb1 : wr.cell? ⟨w.heap.size + 1, 1, none⟩ = some (.slice B2 n2 d2) := by rw [cell_of_row _ _ _ _ _ _ HB1.out]; rfl
    by_cases hlt : k < n
    · have hd1 : decide ((k : Int) < (n : Int)) = true := decide_eq_true (by omega)
      have hi0 : (0 : Int) ≤ (k : Int) := by omega
      have hkl : k < X.length := by have := HL.out.1; omega
      obtain ⟨x, hxx⟩ : ∃ x, x = X[k] := ⟨_, rfl⟩
      have HK := Lib.hid (show X[k]? = some x by rw [List.getElem?_eq_getElem hkl, hxx])
      have hsm := HX.out x (by rw [hxx]; exact List.getElem_mem hkl)
      clear hxx
      obtain ⟨b1, o1, L1, q1, r1, M1, rfl, x0, x1, x2, hp1⟩ := (H.out.below HB.out).node hlt HK.out
      obtain ⟨b2, o2, L2, q2, r2, M2, rfl, y0, y1, y2, hp2⟩ := (H2.out.below HB.out).node hlt HK.out
      obtain ⟨i, ss, ps⟩ := x
      dsimp only at x0 x1 x2 hp1 y0 y1 y2 hp2 hsm
      have HC := Lib.hid (fun (W : World) (g1 : LP W L1 ss.length ss M1 ps.length ps) (g2 : LP W L2 ss.length ss M2 ps.length ps) => snode_yes i L1 L2 M1 M2 ss.length q1 q2 ps.length r1 r2 ss ps W g1 g2 (by omega) (by omega))
      have HP1 := Lib.hid hp1
      have HP2 := Lib.hid hp2
      clear hp1 hp2 hsm
      generalize ss.length = ns at *
      generalize ps.length = np at *
      go_wp2_with fail
      have Rx0 := fun d os => cell_regrown x0 d os
      have Rx1 := fun d os => cell_regrown x1 d os
      have Rx2 := fun d os => cell_regrown x2 d os
      have Ry0 := fun d os => cell_regrown y0 d os
      have Ry1 := fun d os => cell_regrown y1 d os
      have Ry2 := fun d os => cell_regrown y2 d os
      have Rca0 := fun d os => cell_regrown ca0 d os
      have Rca1 := fun d os => cell_regrown ca1 d os
      have Rcb0 := fun d os => cell_regrown cb0 d os
      have Rcb1 := fun d os => cell_regrown cb1 d os
      refine wp_region_quiet_below (by kernel_rfl) (by kernel_rfl) ?_
      repeat (any_goals (first | go_big_quiet_step ((go_at_call 12; with_reducible exact Calls.regrown_of (HC.out _ (HP1.out.below ((below_regrown _ _ _))) (HP2.out.below ((below_regrown _ _ _)))))) | quiet_step ((go_at_call 12; with_reducible exact Calls.regrown_of (HC.out _ (HP1.out.below ((below_regrown _ _ _))) (HP2.out.below ((below_regrown _ _ _))))))))
      refine wpQuiet_nil ?_
      intro w11 hw11
      have hb11 := below_anyY hw11
      clear hw11 Rx0 Rx1 Rx2 Ry0 Ry1 Ry2 Rca0 Rca1 Rcb0 Rcb1
      clear x0 x1 x2 y0 y1 y2 ca0 ca1 cb0 cb1
      have HB2 := Lib.hid (HB.out.trans (hb11.mono HB.out.size))
      have HA2 := Lib.hid (blk_below HA1.out hb11)
      have HB3 := Lib.hid (blk_below HB1.out hb11)
      clear hb11
      go_wp2_with fail
      go_roundw
      case rel => exact ⟨k + 1, by go_num, by omega, HB2.out, HA2.out, HB3.out⟩
      case measure => simp [intOf] <;> omega
    · have hd1 : decide ((k : Int) < (n : Int)) = false := decide_eq_false (by omega)
      go_wp2_with fail
      clear ca0 ca1 cb0 cb1
      go_loopw [6] (fun i wr => ∃ k : Nat, i = .int .i64 (k : Int) ∧ k ≤ n2 ∧ Below w.heap.size w wr ∧ wr.heap[w.heap.size]? = some (.cells #[.slice A n c, .slice A2 n2 c2] 25 (0, 0)) ∧ wr.heap[w.heap.size + 1]? = some (.cells #[.slice B n d, .slice B2 n2 d2] 25 (0, 0))) (fun i _ => n2 - (intOf i).toNat)
      case atStart => exact ⟨0, rfl, Nat.zero_le _, HB.out, HA1.out, HB1.out⟩
      case round =>
        obtain ⟨k, rfl, hk, hb, ha1, hb1⟩ := hrel
        have HB := Lib.hid hb
        have HA1 := Lib.hid ha1
        have HB1 := Lib.hid hb1
        clear hb ha1 hb1
        have ca0 : wr.cell? ⟨w.heap.size, 0, none⟩ = some (.slice A n c) := by rw [cell_of_row _ _ _ _ _ _ HA1.out]; rfl
        have ca1 : wr.cell? ⟨w.heap.size, 1, none⟩ = some (.slice A2 n2 c2) := by rw [cell_of_row _ _ _ _ _ _ HA1.out]; rfl
        have cb0 : wr.cell? ⟨w.heap.size + 1, 0, none⟩ = some (.slice B n d) := by rw [cell_of_row _ _ _ _ _ _ HB1.out]; rfl
        have cb1 : wr.cell? ⟨w.heap.size + 1, 1, none⟩ = some (.slice B2 n2 d2) := by rw [cell_of_row _ _ _ _ _ _ HB1.out]; rfl
        by_cases hlt : k < n2
        · have hd1 : decide ((k : Int) < (n2 : Int)) = true := decide_eq_true (by omega)
          have hi0 : (0 : Int) ≤ (k : Int) := by omega
          have hkl : k < Y.length := by have := HL.out.2; omega
          obtain ⟨x, hxx⟩ : ∃ x, x = Y[k] := ⟨_, rfl⟩
          have HK := Lib.hid (show Y[k]? = some x by rw [List.getElem?_eq_getElem hkl, hxx])
          have hsm := HY.out x (by rw [hxx]; exact List.getElem_mem hkl)
          clear hxx
          obtain ⟨b1, o1, L1, q1, r1, M1, rfl, x0, x1, x2, x3, x4, hp1⟩ := (H.out.below HB.out).edge hlt HK.out
          obtain ⟨b2, o2, L2, q2, r2, M2, rfl, y0, y1, y2, y3, y4, hp2⟩ := (H2.out.below HB.out).edge hlt HK.out
          obtain ⟨i, f, g, ss, ps⟩ := x
          dsimp only at x0 x1 x2 x3 x4 hp1 y0 y1 y2 y3 y4 hp2 hsm
          have HC := Lib.hid (fun (W : World) (g1 : LP W L1 ss.length ss M1 ps.length ps) (g2 : LP W L2 ss.length ss M2 ps.length ps) => sedge_yes i f g L1 L2 M1 M2 ss.length q1 q2 ps.length r1 r2 ss ps W g1 g2 (by omega) (by omega))
          have HP1 := Lib.hid hp1
          have HP2 := Lib.hid hp2
          clear hp1 hp2 hsm
          generalize ss.length = ns at *
          generalize ps.length = np at *
          go_wp2_with fail
          have Rx0 := fun d os => cell_regrown x0 d os
          have Rx1 := fun d os => cell_regrown x1 d os
          have Rx2 := fun d os => cell_regrown x2 d os
          have Rx3 := fun d os => cell_regrown x3 d os
          have Rx4 := fun d os => cell_regrown x4 d os
          have Ry0 := fun d os => cell_regrown y0 d os
          have Ry1 := fun d os => cell_regrown y1 d os
          have Ry2 := fun d os => cell_regrown y2 d os
          have Ry3 := fun d os => cell_regrown y3 d os
          have Ry4 := fun d os => cell_regrown y4 d os
          have Rca0 := fun d os => cell_regrown ca0 d os
          have Rca1 := fun d os => cell_regrown ca1 d os
          have Rcb0 := fun d os => cell_regrown cb0 d os
          have Rcb1 := fun d os => cell_regrown cb1 d os
          refine wp_region_quiet_below (by kernel_rfl) (by kernel_rfl) ?_
          repeat (any_goals (first | go_big_quiet_step ((go_at_call 13; with_reducible exact Calls.regrown_of (HC.out _ (HP1.out.below ((below_regrown _ _ _))) (HP2.out.below ((below_regrown _ _ _)))))) | quiet_step ((go_at_call 13; with_reducible exact Calls.regrown_of (HC.out _ (HP1.out.below ((below_regrown _ _ _))) (HP2.out.below ((below_regrown _ _ _))))))))
          refine wpQuiet_nil ?_
          intro w11 hw11
          have hb11 := below_anyY hw11
          clear hw11 Rx0 Rx1 Rx2 Rx3 Rx4 Ry0 Ry1 Ry2 Ry3 Ry4 Rca0 Rca1 Rcb0 Rcb1
          clear x0 x1 x2 x3 x4 y0 y1 y2 y3 y4 ca0 ca1 cb0 cb1
          have HB2 := Lib.hid (HB.out.trans (hb11.mono HB.out.size))
          have HA2 := Lib.hid (blk_below HA1.out hb11)
          have HB3 := Lib.hid (blk_below HB1.out hb11)
          clear hb11
          go_wp2_with fail
          go_roundw
          case rel => exact ⟨k + 1, by go_num, by omega, HB2.out, HA2.out, HB3.out⟩
          case measure => simp [intOf] <;> omega
        · have hd1 : decide ((k : Int) < (n2 : Int)) = false := decide_eq_false (by omega)
          go_wp2_with fail
          clear ca0 ca1 cb0 cb1
          go_ret
          exact ⟨rfl, HB.out⟩
end Go.Proofs.YtagenkofoacajaaGreat

namespace Go.Proofs.YtagenkofoacajaaGreat
open Go.RowKit Vi

/-- the place of the first node with an id, from k on -/
def nAtF (s : ByteArray) : List Nd → Nat → Int
  | [], _ => -1
  | x :: r, k => if (x.1.toList == s.toList) = true then (k : Int) else nAtF s r (k + 1)
def nAt (X : List Nd) (s : ByteArray) : Int := nAtF s X 0
def inN (X : List Nd) (s : ByteArray) : Bool := X.any fun x => x.1.toList == s.toList
theorem nAtF_in (s : ByteArray) : ∀ (X : List Nd) (k : Nat), (nAtF s X k < 0 ↔ inN X s = false) ∧ -1 ≤ nAtF s X k
  | [], k => by simp [nAtF, inN]
  | x :: r, k => by
    have h := nAtF_in s r (k + 1)
    unfold nAtF
    unfold inN at h ⊢
    rw [List.any_cons]
    cases hx : (x.1.toList == s.toList) with
    | true => rw [if_pos rfl]; simp <;> omega
    | false => rw [if_neg (by simp)]; simpa using h
theorem nAt_neg {X : List Nd} {s : ByteArray} (h : inN X s = false) : decide (nAt X s < 0) = true := decide_eq_true (((nAtF_in s X 0).1).mpr h)
theorem nAt_pos {X : List Nd} {s : ByteArray} (h : inN X s = true) : decide (nAt X s < 0) = false := decide_eq_false (fun q => by rw [((nAtF_in s X 0).1).mp q] at h; cases h)
/-- texts that are ones -/
structure GrOk (X : List Nd) (Y : List Ed) : Prop where
  nd : ∀ x ∈ X, x.1.size ≤ maxLen ∧ LOk x.2.1.length x.2.1 x.2.2.length x.2.2
  ed : ∀ x ∈ Y, x.1.size ≤ maxLen ∧ x.2.1.size ≤ maxLen ∧ x.2.2.1.size ≤ maxLen ∧ LOk x.2.2.2.1.length x.2.2.2.1 x.2.2.2.2.length x.2.2.2.2
def ndE (x : Nd) : Int := ndW x.1 x.2.1 x.2.2
def edE (x : Ed) : Int := edW x.1 x.2.1 x.2.2.1 x.2.2.2.1 x.2.2.2.2
/-- what is wrong with nodes, with edges, behind an id -/
def wrN (p : ByteArray) : List Nd → Int
  | [] => 0
  | x :: r => if ndE x ≠ 0 then ndE x else if leS x.1 p = true then 4 else wrN x.1 r
def wrE (X : List Nd) (p : ByteArray) : List Ed → Int
  | [] => 0
  | x :: r => if edE x ≠ 0 then edE x else if leS x.1 p = true then 4 else if inN X x.2.1 = false ∨ inN X x.2.2.1 = false then 9 else wrE X x.1 r
def gW (X : List Nd) (Y : List Ed) : Int := if 500 < X.length ∨ 1000 < Y.length then 5 else if wrN ⟨#[]⟩ X ≠ 0 then wrN ⟨#[]⟩ X else wrE X ⟨#[]⟩ Y
def prevN (X : List Nd) : Nat → ByteArray
  | 0 => ⟨#[]⟩
  | k + 1 => (X.getD k (⟨#[]⟩, [], [])).1
def prevE (X : List Ed) : Nat → ByteArray
  | 0 => ⟨#[]⟩
  | k + 1 => (X.getD k (⟨#[]⟩, ⟨#[]⟩, ⟨#[]⟩, [], [])).1
theorem prevN_succ (X : List Nd) (k : Nat) {x : Nd} (h : X[k]? = some x) : prevN X (k + 1) = x.1 := by
  show (X.getD k _).1 = _
  rw [List.getD_eq_getElem?_getD, h]; rfl
theorem prevE_succ (X : List Ed) (k : Nat) {x : Ed} (h : X[k]? = some x) : prevE X (k + 1) = x.1 := by
  show (X.getD k _).1 = _
  rw [List.getD_eq_getElem?_getD, h]; rfl
theorem drop_at {α : Type} {X : List α} {k : Nat} {x : α} (h : X[k]? = some x) : X.drop k = x :: X.drop (k + 1) := by
  obtain ⟨hl, rfl⟩ := List.getElem?_eq_some_iff.1 h
  exact List.drop_eq_getElem_cons hl
theorem ndE_nm {x : Nd} (h : ndE x = 0) : nm x.1 = true := by
  unfold ndE ndW at h
  split at h
  · cases h
  · next h1 => simpa using h1
theorem edE_nm {x : Ed} (h : edE x = 0) : nm x.1 = true := by
  unfold edE edW at h
  split at h
  · cases h
  · next h1 => simpa using h1
set_option maxRecDepth 100000 in
set_option maxHeartbeats 2000000 in
theorem nodeat_any (A A2 : Option Addr) (n c n2 c2 : Nat) (X : List Nd) (Y : List Ed) (s : ByteArray) (w : World) (h : GrIs w A n A2 n2 X Y) (hn : n ≤ 1000000) :
    Calls Tryz.prog 10 #[.agg #[.slice A n c, .slice A2 n2 c2], .string s] w fun e w' => e = .returned (.int .i64 (nAt X s)) ∧ Below w.heap.size w w' := by
  have H := Lib.hid h
  have HL := Lib.hid h.nl
  clear h
  have HB1 := Lib.hid (Below.refl w.heap.size w)
  go_enter Tryz.func10, Tryz.ntmps10
  have HF2 := Lib.hid (blk_new w (.cells #[.slice A n c, .slice A2 n2 c2] 25 (0, 0)))
  have HB3 := Lib.hid (HB1.out.alloc HB1.out.size (.cells #[.slice A n c, .slice A2 n2 c2] 25 (0, 0)))
  clear HB1
  have hc4 : (w.alloc (.cells #[.slice A n c, .slice A2 n2 c2] 25 (0, 0))).cell? ⟨w.heap.size, 0, none⟩ = some (.slice A n c) := by rw [cell_of_row _ _ _ _ _ _ HF2.out]; rfl
  have hc5 : (w.alloc (.cells #[.slice A n c, .slice A2 n2 c2] 25 (0, 0))).cell? ⟨w.heap.size, 1, none⟩ = some (.slice A2 n2 c2) := by rw [cell_of_row _ _ _ _ _ _ HF2.out]; rfl
  go_wp2_with fail
  go_loop [5] (fun i => ∃ k : Nat, i = .int .i64 (k : Int) ∧ k ≤ n ∧ Hid (nAtF s (X.drop k) k = nAt X s)) (fun i => n - (intOf i).toNat)
  case atStart => exact ⟨0, rfl, Nat.zero_le _, Lib.hid rfl⟩
  case round =>
    obtain ⟨k, rfl, hk, HI⟩ := hrel
    by_cases hlt : k < n
    · have hd1 : decide ((k : Int) < (n : Int)) = true := decide_eq_true (by omega)
      have hi0 : (0 : Int) ≤ (k : Int) := by omega
      have hkl : k < X.length := by have := HL.out.1; omega
      obtain ⟨x, hxx⟩ : ∃ x, x = X[k] := ⟨_, rfl⟩
      have HK := Lib.hid (show X[k]? = some x by rw [List.getElem?_eq_getElem hkl, hxx])
      clear hxx
      obtain ⟨b1, o1, L1, q1, r1, M1, rfl, x0, -, -, -⟩ := (H.out.below HB3.out).node hlt HK.out
      obtain ⟨i, ss, ps⟩ := x
      dsimp only at x0
      have HT := Lib.hid (show nAtF s (X.drop k) k = if (i.toList == s.toList) = true then (k : Int) else nAtF s (X.drop (k + 1)) (k + 1) by rw [drop_at HK.out]; rfl)
      cases hq : (i.toList == s.toList) with
      | true =>
        have HR := Lib.hid (show (k : Int) = nAt X s by rw [← HI.out, HT.out, if_pos hq])
        go_wp2_with fail
        go_ret
        exact ⟨retI HR.out, HB3.out⟩
      | false =>
        have HR := Lib.hid (show nAtF s (X.drop (k + 1)) (k + 1) = nAt X s by rw [← HI.out, HT.out, if_neg (by rw [hq]; simp)])
        go_wp2_with fail
        go_round
        case rel => exact ⟨k + 1, by go_num, by omega, HR⟩
        case measure => simp [intOf] <;> omega
    · have hd1 : decide ((k : Int) < (n : Int)) = false := decide_eq_false (by omega)
      have HR := Lib.hid (show (-1 : Int) = nAt X s by rw [← HI.out, List.drop_eq_nil_of_le (by have := HL.out.1; omega)]; rfl)
      go_wp2_with fail
      go_ret
      exact ⟨retI HR.out, HB3.out⟩
set_option maxRecDepth 100000 in
set_option maxHeartbeats 8000000 in
theorem wrong26_any (A A2 : Option Addr) (n c n2 c2 : Nat) (X : List Nd) (Y : List Ed) (w : World) (h : GrIs w A n A2 n2 X Y) (k : GrOk X Y) :
    Calls Tryz.prog 6 #[.agg #[.slice A n c, .slice A2 n2 c2]] w fun e w' => e = .returned (.int .i64 (gW X Y)) ∧ Below w.heap.size w w' := by
  have H := Lib.hid h
  have HL := Lib.hid h.nl
  have KN := Lib.hid k.nd
  have KE := Lib.hid k.ed
  clear h k
  by_cases g1 : n ≤ 500
  rotate_left
  · have d1 : decide ((500 : Int) < (n : Int)) = true := decide_eq_true (by omega)
    have HR := Lib.hid (show (5 : Int) = gW X Y by unfold gW; rw [if_pos (Or.inl (by have := HL.out; omega))])
    have HB1 := Lib.hid (Below.refl w.heap.size w)
    go_enter Tryz.func6, Tryz.ntmps6
    have HF2 := Lib.hid (blk_new w (.cells #[.slice A n c, .slice A2 n2 c2] 25 (0, 0)))
    have HB3 := Lib.hid (HB1.out.alloc HB1.out.size (.cells #[.slice A n c, .slice A2 n2 c2] 25 (0, 0)))
    clear HB1
    have hc4 : (w.alloc (.cells #[.slice A n c, .slice A2 n2 c2] 25 (0, 0))).cell? ⟨w.heap.size, 0, none⟩ = some (.slice A n c) := by rw [cell_of_row _ _ _ _ _ _ HF2.out]; rfl
    have hc5 : (w.alloc (.cells #[.slice A n c, .slice A2 n2 c2] 25 (0, 0))).cell? ⟨w.heap.size, 1, none⟩ = some (.slice A2 n2 c2) := by rw [cell_of_row _ _ _ _ _ _ HF2.out]; rfl
    go_wp2_with fail
    go_ret
    exact ⟨retI HR.out, HB3.out⟩
  have d1 : decide ((500 : Int) < (n : Int)) = false := decide_eq_false (by omega)
  by_cases g2 : n2 ≤ 1000
  rotate_left
  · have d2 : decide ((1000 : Int) < (n2 : Int)) = true := decide_eq_true (by omega)
    have HR := Lib.hid (show (5 : Int) = gW X Y by unfold gW; rw [if_pos (Or.inr (by have := HL.out; omega))])
    have HB1 := Lib.hid (Below.refl w.heap.size w)
    go_enter Tryz.func6, Tryz.ntmps6
    have HF2 := Lib.hid (blk_new w (.cells #[.slice A n c, .slice A2 n2 c2] 25 (0, 0)))
    have HB3 := Lib.hid (HB1.out.alloc HB1.out.size (.cells #[.slice A n c, .slice A2 n2 c2] 25 (0, 0)))
    clear HB1
    have hc4 : (w.alloc (.cells #[.slice A n c, .slice A2 n2 c2] 25 (0, 0))).cell? ⟨w.heap.size, 0, none⟩ = some (.slice A n c) := by rw [cell_of_row _ _ _ _ _ _ HF2.out]; rfl
    have hc5 : (w.alloc (.cells #[.slice A n c, .slice A2 n2 c2] 25 (0, 0))).cell? ⟨w.heap.size, 1, none⟩ = some (.slice A2 n2 c2) := by rw [cell_of_row _ _ _ _ _ _ HF2.out]; rfl
    go_wp2_with fail
    go_ret
    exact ⟨retI HR.out, HB3.out⟩
  have d2 : decide ((1000 : Int) < (n2 : Int)) = false := decide_eq_false (by omega)
  have HV := Lib.hid (show gW X Y = if wrN ⟨#[]⟩ X ≠ 0 then wrN ⟨#[]⟩ X else wrE X ⟨#[]⟩ Y by unfold gW; rw [if_neg (by have := HL.out; omega)])
  have HB1 := Lib.hid (Below.refl w.heap.size w)
  go_enter Tryz.func6, Tryz.ntmps6
  have HF2 := Lib.hid (blk_new w (.cells #[.slice A n c, .slice A2 n2 c2] 25 (0, 0)))
  have HB3 := Lib.hid (HB1.out.alloc HB1.out.size (.cells #[.slice A n c, .slice A2 n2 c2] 25 (0, 0)))
  clear HB1
  have hc4 : (w.alloc (.cells #[.slice A n c, .slice A2 n2 c2] 25 (0, 0))).cell? ⟨w.heap.size, 0, none⟩ = some (.slice A n c) := by rw [cell_of_row _ _ _ _ _ _ HF2.out]; rfl
  have hc5 : (w.alloc (.cells #[.slice A n c, .slice A2 n2 c2] 25 (0, 0))).cell? ⟨w.heap.size, 1, none⟩ = some (.slice A2 n2 c2) := by rw [cell_of_row _ _ _ _ _ _ HF2.out]; rfl
  go_wp2_with fail
  clear hc4 hc5
  clear d1 d2
  go_loopw [3] (fun i wr => ∃ k : Nat, i = .int .i64 (k : Int) ∧ k ≤ n ∧ Hid (wrN (prevN X k) (X.drop k) = wrN ⟨#[]⟩ X) ∧ Below w.heap.size w wr ∧ wr.heap[w.heap.size]? = some (.cells #[.slice A n c, .slice A2 n2 c2] 25 (0, 0))) (fun i _ => n - (intOf i).toNat)
  case atStart => exact ⟨0, rfl, Nat.zero_le _, Lib.hid rfl, HB3.out, HF2.out⟩
  case round =>
    obtain ⟨k, rfl, hk, HI, hb, ha⟩ := hrel
    have HB := Lib.hid hb
    have HA := Lib.hid ha
    clear hb ha
    have ca0 : wr.cell? ⟨w.heap.size, 0, none⟩ = some (.slice A n c) := by rw [cell_of_row _ _ _ _ _ _ HA.out]; rfl
    have ca1 : wr.cell? ⟨w.heap.size, 1, none⟩ = some (.slice A2 n2 c2) := by rw [cell_of_row _ _ _ _ _ _ HA.out]; rfl
    by_cases hlt : k < n
    · have hd1 : decide ((k : Int) < (n : Int)) = true := decide_eq_true (by omega)
      have hi0 : (0 : Int) ≤ (k : Int) := by omega
      have hkl : k < X.length := by have := HL.out.1; omega
      obtain ⟨x, hxx⟩ : ∃ x, x = X[k] := ⟨_, rfl⟩
      have HK := Lib.hid (show X[k]? = some x by rw [List.getElem?_eq_getElem hkl, hxx])
      have hok := KN.out x (by rw [hxx]; exact List.getElem_mem hkl)
      clear hxx
      obtain ⟨b1, o1, L1, q1, r1, M1, hA, x0, x1, x2, hp1⟩ := (H.out.below HB.out).node hlt HK.out
      have HZ := Lib.hid (show wrN (prevN X k) (X.drop k) = if ndE x ≠ 0 then ndE x else if leS x.1 (prevN X k) = true then 4 else wrN x.1 (X.drop (k + 1)) by rw [drop_at HK.out]; rfl)
      have HNM := Lib.hid (fun h : ndE x = 0 => ndE_nm h)
      have HPS := Lib.hid (prevN_succ X k HK.out)
      obtain ⟨i, ss, ps⟩ := x
      dsimp only at x0 x1 x2 hp1 HZ HNM HPS hok
      have HC := Lib.hid (fun (W : World) (g1 : LP W L1 ss.length ss M1 ps.length ps) => rnode_any i L1 M1 ss.length q1 ps.length r1 ss ps W g1 hok.2 hok.1)
      have HP1 := Lib.hid hp1
      clear hp1 hok
      obtain ⟨z, hz⟩ : ∃ z, z = ndE (i, ss, ps) := ⟨_, rfl⟩
      rw [← hz] at HZ HNM
      have HC : Hid (∀ (W : World) (_ : LP W L1 ss.length ss M1 ps.length ps), Calls Tryz.prog 28 #[.agg #[.string i, .slice L1 ss.length q1, .slice M1 ps.length r1]] W fun e w' => e = .returned (.int .i64 z) ∧ Below W.heap.size W w') := by rw [hz]; exact HC
      clear hz
      generalize ss.length = ns at *
      generalize ps.length = np at *
      subst hA
      go_wp2_with fail
      refine (HC.out _ HP1.out).mono ?_
      rintro e w11 ⟨rfl, hb11⟩
      have HB1 := Lib.hid (HB.out.trans (hb11.mono HB.out.size))
      have HA1 := Lib.hid (blk_below HA.out hb11)
      have HX0 := Lib.hid (show w11.cell? ⟨b1, o1 + k * 3, none⟩ = some (.string i) from (hb11.cell (p := ⟨b1, _, none⟩) (World.block_lt_of_cell? wr _ x0)).trans x0)
      clear hb11 ca0 ca1 x0 x1 x2 HB HA
      by_cases hz : z = 0
      rotate_left
      · have hz1 : (z != 0) = true := by simpa using hz
        have HR := Lib.hid (show z = gW X Y by
          have e1 : wrN ⟨#[]⟩ X = z := by rw [← HI.out, HZ.out, if_pos hz]
          rw [HV.out, e1, if_pos hz])
        clear hz
        go_wp2_with fail
        go_ret
        exact ⟨retI HR.out, HB1.out⟩
      have hn1 := HNM.out hz
      have HZ2 := Lib.hid (show wrN (prevN X k) (X.drop k) = if leS i (prevN X k) = true then 4 else wrN i (X.drop (k + 1)) by rw [HZ.out, if_neg (by simpa using hz)])
      subst hz
      have ca0 : w11.cell? ⟨w.heap.size, 0, none⟩ = some (.slice (some ⟨b1, o1, none⟩) n c) := by rw [cell_of_row _ _ _ _ _ _ HA1.out]; rfl
      have ca1 : w11.cell? ⟨w.heap.size, 1, none⟩ = some (.slice A2 n2 c2) := by rw [cell_of_row _ _ _ _ _ _ HA1.out]; rfl
      rcases Nat.eq_zero_or_pos k with h0 | hpos
      · have HR := Lib.hid (show wrN (prevN X (k + 1)) (X.drop (k + 1)) = wrN ⟨#[]⟩ X by
          rw [HPS.out, ← HI.out, HZ2.out, if_neg]
          rw [show prevN X k = ⟨#[]⟩ by rw [h0]; rfl, le_nil i hn1]; simp)
        have hd0 : decide ((0 : Int) < (k : Int)) = false := decide_eq_false (by omega)
        have hd0n : decide (0 < k) = false := decide_eq_false (by omega)
        clear h0
        go_wp2_with fail
        have Rca0 := fun d os => cell_regrown ca0 d os
        have Rca1 := fun d os => cell_regrown ca1 d os
        refine wp_region_quiet_below (by kernel_rfl) (by kernel_rfl) ?_
        repeat (any_goals (first | go_big_quiet_step (fail) | quiet_step (fail) | (refine wpQuiet_step (fun K hK => ?_); go_simp; refine hK _ ?_; clear hK K)))
        refine wpQuiet_nil ?_
        intro w12 hw12
        have hb12 := below_anyY hw12
        clear hw12 Rca0 Rca1
        clear ca0 ca1
        have HB2 := Lib.hid (HB1.out.trans (hb12.mono HB1.out.size))
        have HA2 := Lib.hid (blk_below HA1.out hb12)
        clear hb12
        go_wp2_with fail
        go_roundw
        case rel => exact ⟨k + 1, by go_num, by omega, HR, HB2.out, HA2.out⟩
        case measure => simp [intOf] <;> omega
      · obtain ⟨j, hj⟩ : ∃ j, k = j + 1 := ⟨k - 1, by omega⟩
        have hjn : j < n := by omega
        have hjl : j < X.length := by have := HL.out.1; omega
        obtain ⟨y, hyy⟩ : ∃ y, y = X[j] := ⟨_, rfl⟩
        have HKJ := Lib.hid (show X[j]? = some y by rw [List.getElem?_eq_getElem hjl, hyy])
        clear hyy
        have HPJ := Lib.hid (show prevN X k = y.1 by rw [hj]; exact prevN_succ X j HKJ.out)
        obtain ⟨b2, o2, _, _, _, _, hA2, y0, -, -, -⟩ := (H.out.below HB1.out).node hjn HKJ.out
        injection hA2 with hA3
        injection hA3 with q2 q3 _
        subst q2 q3
        obtain ⟨p, ss2, ps2⟩ := y
        dsimp only at y0 HPJ
        have hd0 : decide ((0 : Int) < (k : Int)) = true := decide_eq_true (by omega)
        have hd0n : decide (0 < k) = true := decide_eq_true (by omega)
        have hw : IntKind.i64.wrap ((k : Int) - 1) = (j : Int) := by rw [IntWalk.i64_in _ (by omega)]; omega
        have hj0 : (0 : Int) ≤ (j : Int) := by omega
        have hj1 : (j : Int) < (n : Int) := by omega
        have x0 := HX0.out
        have HJ := Lib.hid hj
        clear hj hpos
        rcases leS_cases i p with ⟨g1, hg⟩ | ⟨g1, g2, hg⟩ | ⟨g1, g2, hg⟩
        · have HR := Lib.hid (show (4 : Int) = gW X Y by
            have e1 : wrN ⟨#[]⟩ X = 4 := by rw [← HI.out, HZ2.out, HPJ.out, if_pos hg]
            rw [HV.out, e1]; rfl)
          clear hg
          go_wp2_with fail
          have Rca0 := fun d os => cell_regrown ca0 d os
          have Rca1 := fun d os => cell_regrown ca1 d os
          have Rx0 := fun d os => cell_regrown x0 d os
          have Ry0 := fun d os => cell_regrown y0 d os
          refine wp_region_quiet_below (by kernel_rfl) (by kernel_rfl) ?_
          repeat (any_goals (first | go_big_quiet_step (fail) | quiet_step (fail) | (refine wpQuiet_step (fun K hK => ?_); go_simp; refine hK _ ?_; clear hK K)))
          refine wpQuiet_nil ?_
          intro w12 hw12
          have hb12 := below_anyY hw12
          clear hw12 Rca0 Rca1 Rx0 Ry0
          clear ca0 ca1 x0 y0
          have HB2 := Lib.hid (HB1.out.trans (hb12.mono HB1.out.size))
          clear hb12
          go_wp2_with fail
          go_ret
          exact ⟨retI HR.out, HB2.out⟩
        · have HR := Lib.hid (show (4 : Int) = gW X Y by
            have e1 : wrN ⟨#[]⟩ X = 4 := by rw [← HI.out, HZ2.out, HPJ.out, if_pos hg]
            rw [HV.out, e1]; rfl)
          clear hg
          go_wp2_with fail
          have Rca0 := fun d os => cell_regrown ca0 d os
          have Rca1 := fun d os => cell_regrown ca1 d os
          have Rx0 := fun d os => cell_regrown x0 d os
          have Ry0 := fun d os => cell_regrown y0 d os
          refine wp_region_quiet_below (by kernel_rfl) (by kernel_rfl) ?_
          repeat (any_goals (first | go_big_quiet_step (fail) | quiet_step (fail) | (refine wpQuiet_step (fun K hK => ?_); go_simp; refine hK _ ?_; clear hK K)))
          refine wpQuiet_nil ?_
          intro w12 hw12
          have hb12 := below_anyY hw12
          clear hw12 Rca0 Rca1 Rx0 Ry0
          clear ca0 ca1 x0 y0
          have HB2 := Lib.hid (HB1.out.trans (hb12.mono HB1.out.size))
          clear hb12
          go_wp2_with fail
          go_ret
          exact ⟨retI HR.out, HB2.out⟩
        · have HR := Lib.hid (show wrN (prevN X (k + 1)) (X.drop (k + 1)) = wrN ⟨#[]⟩ X by rw [HPS.out, ← HI.out, HZ2.out, HPJ.out, if_neg (by rw [hg]; simp)])
          clear hg
          go_wp2_with fail
          have Rca0 := fun d os => cell_regrown ca0 d os
          have Rca1 := fun d os => cell_regrown ca1 d os
          have Rx0 := fun d os => cell_regrown x0 d os
          have Ry0 := fun d os => cell_regrown y0 d os
          refine wp_region_quiet_below (by kernel_rfl) (by kernel_rfl) ?_
          repeat (any_goals (first | go_big_quiet_step (fail) | quiet_step (fail) | (refine wpQuiet_step (fun K hK => ?_); go_simp; refine hK _ ?_; clear hK K)))
          refine wpQuiet_nil ?_
          intro w12 hw12
          have hb12 := below_anyY hw12
          clear hw12 Rca0 Rca1 Rx0 Ry0
          clear ca0 ca1 x0 y0
          have HB2 := Lib.hid (HB1.out.trans (hb12.mono HB1.out.size))
          have HA2 := Lib.hid (blk_below HA1.out hb12)
          clear hb12
          go_wp2_with fail
          go_roundw
          case rel => exact ⟨k + 1, by go_num, by omega, HR, HB2.out, HA2.out⟩
          case measure => simp [intOf] <;> omega
    · have hd1 : decide ((k : Int) < (n : Int)) = false := decide_eq_false (by omega)
      have HWN := Lib.hid (show wrN ⟨#[]⟩ X = 0 by rw [← HI.out, List.drop_eq_nil_of_le (by have := HL.out.1; omega)]; rfl)
      have HV2 := Lib.hid (show gW X Y = wrE X ⟨#[]⟩ Y by rw [HV.out, HWN.out, if_neg (by simp)])
      have HNA := Lib.hid (fun (W : World) (s : ByteArray) (g1 : GrIs W A n A2 n2 X Y) => nodeat_any A A2 n c n2 c2 X Y s W g1 (by omega))
      go_wp2_with fail
      clear hd1 ca0 ca1
      go_loopw [5] (fun i wr => ∃ k : Nat, i = .int .i64 (k : Int) ∧ k ≤ n2 ∧ Hid (wrE X (prevE Y k) (Y.drop k) = wrE X ⟨#[]⟩ Y) ∧ Below w.heap.size w wr ∧ wr.heap[w.heap.size]? = some (.cells #[.slice A n c, .slice A2 n2 c2] 25 (0, 0))) (fun i _ => n2 - (intOf i).toNat)
      case atStart => exact ⟨0, rfl, Nat.zero_le _, Lib.hid rfl, HB.out, HA.out⟩
      case round =>
        clear hlt hk HB HA HI
        obtain ⟨k, rfl, hk, HI, hb, ha⟩ := hrel
        have HB := Lib.hid hb
        have HA := Lib.hid ha
        clear hb ha
        have ca0 : wr.cell? ⟨w.heap.size, 0, none⟩ = some (.slice A n c) := by rw [cell_of_row _ _ _ _ _ _ HA.out]; rfl
        have ca1 : wr.cell? ⟨w.heap.size, 1, none⟩ = some (.slice A2 n2 c2) := by rw [cell_of_row _ _ _ _ _ _ HA.out]; rfl
        by_cases hlt : k < n2
        · have hd1 : decide ((k : Int) < (n2 : Int)) = true := decide_eq_true (by omega)
          have hi0 : (0 : Int) ≤ (k : Int) := by omega
          have hkl : k < Y.length := by have := HL.out.2; omega
          obtain ⟨x, hxx⟩ : ∃ x, x = Y[k] := ⟨_, rfl⟩
          have HK := Lib.hid (show Y[k]? = some x by rw [List.getElem?_eq_getElem hkl, hxx])
          have hok := KE.out x (by rw [hxx]; exact List.getElem_mem hkl)
          clear hxx
          obtain ⟨b1, o1, L1, q1, r1, M1, hA, x0, x1, x2, x3, x4, hp1⟩ := (H.out.below HB.out).edge hlt HK.out
          have HZ := Lib.hid (show wrE X (prevE Y k) (Y.drop k) = if edE x ≠ 0 then edE x else if leS x.1 (prevE Y k) = true then 4 else if inN X x.2.1 = false ∨ inN X x.2.2.1 = false then 9 else wrE X x.1 (Y.drop (k + 1)) by rw [drop_at HK.out]; rfl)
          have HNM := Lib.hid (fun h : edE x = 0 => edE_nm h)
          have HPS := Lib.hid (prevE_succ Y k HK.out)
          obtain ⟨i, f, g, ss, ps⟩ := x
          dsimp only at x0 x1 x2 x3 x4 hp1 HZ HNM HPS hok
          have HC := Lib.hid (fun (W : World) (g1 : LP W L1 ss.length ss M1 ps.length ps) => redge_any i f g L1 M1 ss.length q1 ps.length r1 ss ps W g1 hok.2.2.2 hok.1 hok.2.1 hok.2.2.1)
          have HP1 := Lib.hid hp1
          clear hp1 hok
          obtain ⟨z, hz⟩ : ∃ z, z = edE (i, f, g, ss, ps) := ⟨_, rfl⟩
          rw [← hz] at HZ HNM
          have HC : Hid (∀ (W : World) (_ : LP W L1 ss.length ss M1 ps.length ps), Calls Tryz.prog 29 #[.agg #[.string i, .string f, .string g, .slice L1 ss.length q1, .slice M1 ps.length r1]] W fun e w' => e = .returned (.int .i64 z) ∧ Below W.heap.size W w') := by rw [hz]; exact HC
          clear hz
          generalize ss.length = ns at *
          generalize ps.length = np at *
          have HB0 := Lib.hid (Below.refl wr.heap.size wr)
          have HAA := Lib.hid (blk_alloc HA.out (.cells #[.string i, .string f, .string g, .slice L1 ns q1, .slice M1 np r1] 36 (0, 0)))
          have hX := World.block_lt_of_cell? wr _ ca0
          have hX : w.heap.size < wr.heap.size := hX
          subst hA
          have HF101 := Lib.hid (blk_new wr (.cells #[.string i, .string f, .string g, .slice L1 ns q1, .slice M1 np r1] 36 (0, 0)))
          have HB102 := Lib.hid (HB0.out.alloc HB0.out.size (.cells #[.string i, .string f, .string g, .slice L1 ns q1, .slice M1 np r1] 36 (0, 0)))
          clear HB0
          have hc103 : (wr.alloc (.cells #[.string i, .string f, .string g, .slice L1 ns q1, .slice M1 np r1] 36 (0, 0))).cell? ⟨wr.heap.size, 0, none⟩ = some (.string i) := by rw [cell_of_row _ _ _ _ _ _ HF101.out]; rfl
          have hc104 : (wr.alloc (.cells #[.string i, .string f, .string g, .slice L1 ns q1, .slice M1 np r1] 36 (0, 0))).cell? ⟨wr.heap.size, 1, none⟩ = some (.string f) := by rw [cell_of_row _ _ _ _ _ _ HF101.out]; rfl
          have hc105 : (wr.alloc (.cells #[.string i, .string f, .string g, .slice L1 ns q1, .slice M1 np r1] 36 (0, 0))).cell? ⟨wr.heap.size, 2, none⟩ = some (.string g) := by rw [cell_of_row _ _ _ _ _ _ HF101.out]; rfl
          have hc106 : (wr.alloc (.cells #[.string i, .string f, .string g, .slice L1 ns q1, .slice M1 np r1] 36 (0, 0))).cell? ⟨wr.heap.size, 3, none⟩ = some (.slice L1 ns q1) := by rw [cell_of_row _ _ _ _ _ _ HF101.out]; rfl
          have hc107 : (wr.alloc (.cells #[.string i, .string f, .string g, .slice L1 ns q1, .slice M1 np r1] 36 (0, 0))).cell? ⟨wr.heap.size, 4, none⟩ = some (.slice M1 np r1) := by rw [cell_of_row _ _ _ _ _ _ HF101.out]; rfl
          go_wp2_with fail
          clear hc103 hc104 hc105 hc106 hc107
          refine (HC.out _ (HP1.out.below HB102.out)).mono ?_
          rintro e w11 ⟨rfl, hb11⟩
          have HB1 := Lib.hid (HB.out.trans ((HB102.out.trans (hb11.mono HB102.out.size)).mono HB.out.size))
          have HA1 := Lib.hid (blk_below HAA.out hb11)
          have HF1 := Lib.hid (blk_below HF101.out hb11)
          clear hb11 ca0 ca1 x0 x1 x2 x3 x4 HAA
          by_cases hz : z = 0
          rotate_left
          · have hz1 : (z != 0) = true := by simpa using hz
            have HR := Lib.hid (show z = gW X Y by rw [HV2.out, ← HI.out, HZ.out, if_pos hz])
            clear hz
            go_wp2_with fail
            go_ret
            exact ⟨retI HR.out, HB1.out⟩
          have hn1 := HNM.out hz
          have HZ2 := Lib.hid (show wrE X (prevE Y k) (Y.drop k) = if leS i (prevE Y k) = true then 4 else if inN X f = false ∨ inN X g = false then 9 else wrE X i (Y.drop (k + 1)) by rw [HZ.out, if_neg (by simpa using hz)])
          subst hz
          have ca0 : w11.cell? ⟨w.heap.size, 0, none⟩ = some (.slice A n c) := by rw [cell_of_row _ _ _ _ _ _ HA1.out]; rfl
          have ca1 : w11.cell? ⟨w.heap.size, 1, none⟩ = some (.slice (some ⟨b1, o1, none⟩) n2 c2) := by rw [cell_of_row _ _ _ _ _ _ HA1.out]; rfl
          have cx0 : w11.cell? ⟨wr.heap.size, 0, none⟩ = some (.string i) := by rw [cell_of_row _ _ _ _ _ _ HF1.out]; rfl
          rcases Nat.eq_zero_or_pos k with h0 | hpos
          · have HZ3 := Lib.hid (show wrE X (prevE Y k) (Y.drop k) = if inN X f = false ∨ inN X g = false then 9 else wrE X i (Y.drop (k + 1)) by
              rw [HZ2.out, if_neg]
              rw [show prevE Y k = ⟨#[]⟩ by rw [h0]; rfl, le_nil i hn1]; simp)
            have hd0 : decide ((0 : Int) < (k : Int)) = false := decide_eq_false (by omega)
            have hd0n : decide (0 < k) = false := decide_eq_false (by omega)
            clear h0
            go_wp2_with fail
            have Rca0 := fun d os => cell_regrown ca0 d os
            have Rca1 := fun d os => cell_regrown ca1 d os
            have Rcx0 := fun d os => cell_regrown cx0 d os
            refine wp_region_quiet_below (by kernel_rfl) (by kernel_rfl) ?_
            repeat (any_goals (first | go_big_quiet_step (fail) | quiet_step (fail) | (refine wpQuiet_step (fun K hK => ?_); go_simp; refine hK _ ?_; clear hK K)))
            refine wpQuiet_nil ?_
            intro w12 hw12
            have hb12 := below_anyY hw12
            clear hw12 Rca0 Rca1 Rcx0
            clear ca0 ca1 cx0
            have HB2 := Lib.hid (HB1.out.trans (hb12.mono HB1.out.size))
            have HA2 := Lib.hid (blk_below HA1.out hb12)
            have HF2 := Lib.hid (blk_below HF1.out hb12)
            clear hb12
            clear hd0 hd0n
            have ca0 : w12.cell? ⟨w.heap.size, 0, none⟩ = some (.slice A n c) := by rw [cell_of_row _ _ _ _ _ _ HA2.out]; rfl
            have ca1 : w12.cell? ⟨w.heap.size, 1, none⟩ = some (.slice (some ⟨b1, o1, none⟩) n2 c2) := by rw [cell_of_row _ _ _ _ _ _ HA2.out]; rfl
            have cx1 : w12.cell? ⟨wr.heap.size, 1, none⟩ = some (.string f) := by rw [cell_of_row _ _ _ _ _ _ HF2.out]; rfl
            have cx2 : w12.cell? ⟨wr.heap.size, 2, none⟩ = some (.string g) := by rw [cell_of_row _ _ _ _ _ _ HF2.out]; rfl
            cases hf : inN X f with
            | false =>
              have HF := Lib.hid (HNA.out w12 f (H.out.below HB2.out))
              have hdf := nAt_neg hf
              generalize nAt X f = nf at HF hdf
              have HR := Lib.hid (show (9 : Int) = gW X Y by rw [HV2.out, ← HI.out, HZ3.out, if_pos (Or.inl hf)])
              clear hf
              go_wp2_with fail
              refine HF.out.mono ?_
              rintro e w13 ⟨rfl, hb13⟩
              have HB3 := Lib.hid (HB2.out.trans (hb13.mono HB2.out.size))
              clear hb13 ca0 ca1 cx1 cx2
              go_wp2_with fail
              go_ret
              exact ⟨retI HR.out, HB3.out⟩
            | true =>
              have HF := Lib.hid (HNA.out w12 f (H.out.below HB2.out))
              have hdf := nAt_pos hf
              generalize nAt X f = nf at HF hdf
              go_wp2_with fail
              refine HF.out.mono ?_
              rintro e w13 ⟨rfl, hb13⟩
              have HB3 := Lib.hid (HB2.out.trans (hb13.mono HB2.out.size))
              have HA3 := Lib.hid (blk_below HA2.out hb13)
              have HF3 := Lib.hid (blk_below HF2.out hb13)
              clear hb13 ca0 ca1 cx1 cx2
              have ca0 : w13.cell? ⟨w.heap.size, 0, none⟩ = some (.slice A n c) := by rw [cell_of_row _ _ _ _ _ _ HA3.out]; rfl
              have ca1 : w13.cell? ⟨w.heap.size, 1, none⟩ = some (.slice (some ⟨b1, o1, none⟩) n2 c2) := by rw [cell_of_row _ _ _ _ _ _ HA3.out]; rfl
              have cx2 : w13.cell? ⟨wr.heap.size, 2, none⟩ = some (.string g) := by rw [cell_of_row _ _ _ _ _ _ HF3.out]; rfl
              have HG := Lib.hid (HNA.out w13 g (H.out.below HB3.out))
              cases hg2 : inN X g with
              | false =>
                have hdg := nAt_neg hg2
                have HR := Lib.hid (show (9 : Int) = gW X Y by rw [HV2.out, ← HI.out, HZ3.out, if_pos (Or.inr hg2)])
                generalize nAt X g = ng at HG hdg
                clear hf hg2
                go_wp2_with fail
                refine HG.out.mono ?_
                rintro e w14 ⟨rfl, hb14⟩
                have HB4 := Lib.hid (HB3.out.trans (hb14.mono HB3.out.size))
                clear hb14 ca0 ca1 cx2
                go_wp2_with fail
                go_ret
                exact ⟨retI HR.out, HB4.out⟩
              | true =>
                have hdg := nAt_pos hg2
                have HR := Lib.hid (show wrE X (prevE Y (k + 1)) (Y.drop (k + 1)) = wrE X ⟨#[]⟩ Y by rw [HPS.out, ← HI.out, HZ3.out, if_neg (by rw [hf, hg2]; simp)])
                generalize nAt X g = ng at HG hdg
                clear hf hg2
                go_wp2_with fail
                refine HG.out.mono ?_
                rintro e w14 ⟨rfl, hb14⟩
                have HB4 := Lib.hid (HB3.out.trans (hb14.mono HB3.out.size))
                have HA4 := Lib.hid (blk_below HA3.out hb14)
                clear hb14 ca0 ca1 cx2
                go_wp2_with fail
                go_roundw
                case rel => exact ⟨k + 1, by go_num, by omega, HR, HB4.out, HA4.out⟩
                case measure => simp [intOf] <;> omega
          · obtain ⟨j, hj⟩ : ∃ j, k = j + 1 := ⟨k - 1, by omega⟩
            have hjn : j < n2 := by omega
            have hjl : j < Y.length := by have := HL.out.2; omega
            obtain ⟨y, hyy⟩ : ∃ y, y = Y[j] := ⟨_, rfl⟩
            have HKJ := Lib.hid (show Y[j]? = some y by rw [List.getElem?_eq_getElem hjl, hyy])
            clear hyy
            have HPJ := Lib.hid (show prevE Y k = y.1 by rw [hj]; exact prevE_succ Y j HKJ.out)
            obtain ⟨b2, o2, _, _, _, _, hA2, y0, -, -, -, -, -⟩ := (H.out.below HB1.out).edge hjn HKJ.out
            injection hA2 with hA3
            injection hA3 with q2 q3 _
            subst q2 q3
            obtain ⟨p, f2, g2, ss2, ps2⟩ := y
            dsimp only at y0 HPJ
            have hd0 : decide ((0 : Int) < (k : Int)) = true := decide_eq_true (by omega)
            have hd0n : decide (0 < k) = true := decide_eq_true (by omega)
            have hw : IntKind.i64.wrap ((k : Int) - 1) = (j : Int) := by rw [IntWalk.i64_in _ (by omega)]; omega
            have hj0 : (0 : Int) ≤ (j : Int) := by omega
            have hj1 : (j : Int) < (n2 : Int) := by omega
            have HJ := Lib.hid hj
            clear hj hpos
            rcases leS_cases i p with ⟨g1, hg⟩ | ⟨g1, g2', hg⟩ | ⟨g1, g2', hg⟩
            · have HR := Lib.hid (show (4 : Int) = gW X Y by rw [HV2.out, ← HI.out, HZ2.out, HPJ.out, if_pos hg])
              clear hg
              go_wp2_with fail
              have Rca0 := fun d os => cell_regrown ca0 d os
              have Rca1 := fun d os => cell_regrown ca1 d os
              have Rcx0 := fun d os => cell_regrown cx0 d os
              have Ry0 := fun d os => cell_regrown y0 d os
              refine wp_region_quiet_below (by kernel_rfl) (by kernel_rfl) ?_
              repeat (any_goals (first | go_big_quiet_step (fail) | quiet_step (fail) | (refine wpQuiet_step (fun K hK => ?_); go_simp; refine hK _ ?_; clear hK K)))
              refine wpQuiet_nil ?_
              intro w12 hw12
              have hb12 := below_anyY hw12
              clear hw12 Rca0 Rca1 Rcx0 Ry0
              clear ca0 ca1 cx0 y0
              have HB2 := Lib.hid (HB1.out.trans (hb12.mono HB1.out.size))
              clear hb12
              go_wp2_with fail
              go_ret
              exact ⟨retI HR.out, HB2.out⟩
            · have HR := Lib.hid (show (4 : Int) = gW X Y by rw [HV2.out, ← HI.out, HZ2.out, HPJ.out, if_pos hg])
              clear hg
              go_wp2_with fail
              have Rca0 := fun d os => cell_regrown ca0 d os
              have Rca1 := fun d os => cell_regrown ca1 d os
              have Rcx0 := fun d os => cell_regrown cx0 d os
              have Ry0 := fun d os => cell_regrown y0 d os
              refine wp_region_quiet_below (by kernel_rfl) (by kernel_rfl) ?_
              repeat (any_goals (first | go_big_quiet_step (fail) | quiet_step (fail) | (refine wpQuiet_step (fun K hK => ?_); go_simp; refine hK _ ?_; clear hK K)))
              refine wpQuiet_nil ?_
              intro w12 hw12
              have hb12 := below_anyY hw12
              clear hw12 Rca0 Rca1 Rcx0 Ry0
              clear ca0 ca1 cx0 y0
              have HB2 := Lib.hid (HB1.out.trans (hb12.mono HB1.out.size))
              clear hb12
              go_wp2_with fail
              go_ret
              exact ⟨retI HR.out, HB2.out⟩
            · have HZ3 := Lib.hid (show wrE X (prevE Y k) (Y.drop k) = if inN X f = false ∨ inN X g = false then 9 else wrE X i (Y.drop (k + 1)) by rw [HZ2.out, HPJ.out, if_neg (by rw [hg]; simp)])
              clear hg
              go_wp2_with fail
              have Rca0 := fun d os => cell_regrown ca0 d os
              have Rca1 := fun d os => cell_regrown ca1 d os
              have Rcx0 := fun d os => cell_regrown cx0 d os
              have Ry0 := fun d os => cell_regrown y0 d os
              refine wp_region_quiet_below (by kernel_rfl) (by kernel_rfl) ?_
              repeat (any_goals (first | go_big_quiet_step (fail) | quiet_step (fail) | (refine wpQuiet_step (fun K hK => ?_); go_simp; refine hK _ ?_; clear hK K)))
              refine wpQuiet_nil ?_
              intro w12 hw12
              have hb12 := below_anyY hw12
              clear hw12 Rca0 Rca1 Rcx0 Ry0
              clear ca0 ca1 cx0 y0
              have HB2 := Lib.hid (HB1.out.trans (hb12.mono HB1.out.size))
              have HA2 := Lib.hid (blk_below HA1.out hb12)
              have HF2 := Lib.hid (blk_below HF1.out hb12)
              clear hb12
              clear hd0 hd0n hw hj0 hj1 g1 g2'
              have ca0 : w12.cell? ⟨w.heap.size, 0, none⟩ = some (.slice A n c) := by rw [cell_of_row _ _ _ _ _ _ HA2.out]; rfl
              have ca1 : w12.cell? ⟨w.heap.size, 1, none⟩ = some (.slice (some ⟨b1, o1, none⟩) n2 c2) := by rw [cell_of_row _ _ _ _ _ _ HA2.out]; rfl
              have cx1 : w12.cell? ⟨wr.heap.size, 1, none⟩ = some (.string f) := by rw [cell_of_row _ _ _ _ _ _ HF2.out]; rfl
              have cx2 : w12.cell? ⟨wr.heap.size, 2, none⟩ = some (.string g) := by rw [cell_of_row _ _ _ _ _ _ HF2.out]; rfl
              cases hf : inN X f with
              | false =>
                have HF := Lib.hid (HNA.out w12 f (H.out.below HB2.out))
                have hdf := nAt_neg hf
                generalize nAt X f = nf at HF hdf
                have HR := Lib.hid (show (9 : Int) = gW X Y by rw [HV2.out, ← HI.out, HZ3.out, if_pos (Or.inl hf)])
                clear hf
                go_wp2_with fail
                refine HF.out.mono ?_
                rintro e w13 ⟨rfl, hb13⟩
                have HB3 := Lib.hid (HB2.out.trans (hb13.mono HB2.out.size))
                clear hb13 ca0 ca1 cx1 cx2
                go_wp2_with fail
                go_ret
                exact ⟨retI HR.out, HB3.out⟩
              | true =>
                have HF := Lib.hid (HNA.out w12 f (H.out.below HB2.out))
                have hdf := nAt_pos hf
                generalize nAt X f = nf at HF hdf
                go_wp2_with fail
                refine HF.out.mono ?_
                rintro e w13 ⟨rfl, hb13⟩
                have HB3 := Lib.hid (HB2.out.trans (hb13.mono HB2.out.size))
                have HA3 := Lib.hid (blk_below HA2.out hb13)
                have HF3 := Lib.hid (blk_below HF2.out hb13)
                clear hb13 ca0 ca1 cx1 cx2
                have ca0 : w13.cell? ⟨w.heap.size, 0, none⟩ = some (.slice A n c) := by rw [cell_of_row _ _ _ _ _ _ HA3.out]; rfl
                have ca1 : w13.cell? ⟨w.heap.size, 1, none⟩ = some (.slice (some ⟨b1, o1, none⟩) n2 c2) := by rw [cell_of_row _ _ _ _ _ _ HA3.out]; rfl
                have cx2 : w13.cell? ⟨wr.heap.size, 2, none⟩ = some (.string g) := by rw [cell_of_row _ _ _ _ _ _ HF3.out]; rfl
                have HG := Lib.hid (HNA.out w13 g (H.out.below HB3.out))
                cases hg2 : inN X g with
                | false =>
                  have hdg := nAt_neg hg2
                  have HR := Lib.hid (show (9 : Int) = gW X Y by rw [HV2.out, ← HI.out, HZ3.out, if_pos (Or.inr hg2)])
                  generalize nAt X g = ng at HG hdg
                  clear hf hg2
                  go_wp2_with fail
                  refine HG.out.mono ?_
                  rintro e w14 ⟨rfl, hb14⟩
                  have HB4 := Lib.hid (HB3.out.trans (hb14.mono HB3.out.size))
                  clear hb14 ca0 ca1 cx2
                  go_wp2_with fail
                  go_ret
                  exact ⟨retI HR.out, HB4.out⟩
                | true =>
                  have hdg := nAt_pos hg2
                  have HR := Lib.hid (show wrE X (prevE Y (k + 1)) (Y.drop (k + 1)) = wrE X ⟨#[]⟩ Y by rw [HPS.out, ← HI.out, HZ3.out, if_neg (by rw [hf, hg2]; simp)])
                  generalize nAt X g = ng at HG hdg
                  clear hf hg2
                  go_wp2_with fail
                  refine HG.out.mono ?_
                  rintro e w14 ⟨rfl, hb14⟩
                  have HB4 := Lib.hid (HB3.out.trans (hb14.mono HB3.out.size))
                  have HA4 := Lib.hid (blk_below HA3.out hb14)
                  clear hb14 ca0 ca1 cx2
                  go_wp2_with fail
                  go_roundw
                  case rel => exact ⟨k + 1, by go_num, by omega, HR, HB4.out, HA4.out⟩
                  case measure => simp [intOf] <;> omega
        · have hd1 : decide ((k : Int) < (n2 : Int)) = false := decide_eq_false (by omega)
          have HR := Lib.hid (show (0 : Int) = gW X Y by rw [HV2.out, ← HI.out, List.drop_eq_nil_of_le (by have := HL.out.2; omega)]; rfl)
          go_wp2_with fail
          go_ret
          exact ⟨retI HR.out, HB.out⟩
end Go.Proofs.YtagenkofoacajaaGreat

namespace Go.Proofs.YtagenkofoacajaaGreat
open Go.RowKit Vi

def RetNat (m : Nat) (w : World) (e : Ending) (w' : World) : Prop := ∃ z : Nat, e = .returned (.int .i64 (z : Int)) ∧ z ≤ m ∧ Below w.heap.size w w'
def RetBool (p : Prop) (w : World) (e : Ending) (w' : World) : Prop := ∃ b : Bool, e = .returned (.bool b) ∧ (b = true → p) ∧ Below w.heap.size w w'
def wtL (ss : List ByteArray) : Nat := (ss.map fun s => min s.size 5000).sum
def wtP (ps : List Pr) : Nat := (ps.map fun p => min p.1.size 5000 + min p.2.2.2.size 5000).sum
def wt (ss : List ByteArray) (ps : List Pr) : Nat := if 20 < ss.length ∨ 20 < ps.length then 100000 else wtL ss + wtP ps
theorem wtL_take (ss : List ByteArray) (k : Nat) (h : k < ss.length) : wtL (ss.take (k + 1)) = wtL (ss.take k) + min ss[k].size 5000 := by
  rw [List.take_succ_eq_append_getElem h]; unfold wtL; rw [List.map_append, List.sum_append]; simp
theorem wtP_take (ps : List Pr) (k : Nat) (h : k < ps.length) : wtP (ps.take (k + 1)) = wtP (ps.take k) + (min ps[k].1.size 5000 + min ps[k].2.2.2.size 5000) := by
  rw [List.take_succ_eq_append_getElem h]; unfold wtP; rw [List.map_append, List.sum_append]; simp
theorem wtL_le (ss : List ByteArray) : wtL ss ≤ 5000 * ss.length := by
  induction ss with
  | nil => simp [wtL]
  | cons s r ih => unfold wtL at ih ⊢; simp only [List.map_cons, List.sum_cons, List.length_cons]; omega
theorem wtP_le (ps : List Pr) : wtP ps ≤ 10000 * ps.length := by
  induction ps with
  | nil => simp [wtP]
  | cons s r ih => unfold wtP at ih ⊢; simp only [List.map_cons, List.sum_cons, List.length_cons]; omega
theorem wt_le (ss : List ByteArray) (ps : List Pr) : wt ss ps ≤ 500000 := by
  unfold wt
  have h1 := wtL_le ss
  have h2 := wtP_le ps
  split <;> omega
theorem nat_eq {a b : Int} (h : a = b) : Value.int .i64 a = Value.int .i64 b := by rw [h]
set_option maxRecDepth 100000 in
set_option maxHeartbeats 4000000 in
theorem weight_any (A A2 : Option Addr) (n c n2 c2 : Nat) (ss : List ByteArray) (ps : List Pr) (w : World) (h : LP w A n ss A2 n2 ps) :
    Calls Tryz.prog 27 #[.slice A n c, .slice A2 n2 c2] w fun e w' => e = .returned (.int .i64 (wt ss ps : Int)) ∧ Below w.heap.size w w' := by
  have H := Lib.hid h
  have L := Lib.hid h.l.1
  have L2 := Lib.hid h.p.1
  clear h
  have HB1 := Lib.hid (Below.refl w.heap.size w)
  by_cases g1 : n ≤ 20
  rotate_left
  · have d1 : decide ((20 : Int) < (n : Int)) = true := decide_eq_true (by omega)
    go_enter Tryz.func27, Tryz.ntmps27
    go_wp2_with fail
    go_ret
    exact ⟨by rw [show wt ss ps = 100000 by unfold wt; rw [if_pos (by rw [L.out, L2.out]; omega)]]; rfl, HB1.out⟩
  have d1 : decide ((20 : Int) < (n : Int)) = false := decide_eq_false (by omega)
  by_cases g2 : n2 ≤ 20
  rotate_left
  · have d2 : decide ((20 : Int) < (n2 : Int)) = true := decide_eq_true (by omega)
    go_enter Tryz.func27, Tryz.ntmps27
    go_wp2_with fail
    go_ret
    exact ⟨by rw [show wt ss ps = 100000 by unfold wt; rw [if_pos (by rw [L.out, L2.out]; omega)]]; rfl, HB1.out⟩
  have d2 : decide ((20 : Int) < (n2 : Int)) = false := decide_eq_false (by omega)
  go_enter Tryz.func27, Tryz.ntmps27
  go_wp2_with fail
  clear d1 d2
  go_loop [5, 6] (fun s i => ∃ k m : Nat, s = .int .i64 (m : Int) ∧ i = .int .i64 (k : Int) ∧ k ≤ n ∧ Hid (m = wtL (ss.take k))) (fun _ i => n - (intOf i).toNat)
  case atStart => exact ⟨0, 0, rfl, rfl, Nat.zero_le _, Lib.hid rfl⟩
  case round =>
    obtain ⟨k, m, rfl, rfl, hk, HM⟩ := hrel
    have hmm : m ≤ 5000 * k := by rw [HM.out]; exact Nat.le_trans (wtL_le _) (by rw [List.length_take]; omega)
    by_cases hlt : k < n
    · have hd1 : decide ((k : Int) < (n : Int)) = true := decide_eq_true (by omega)
      obtain ⟨b, off, rfl, hc⟩ := H.out.l.2 (by omega)
      have hl : k < ss.length := by rw [L.out]; exact hlt
      have hca := hc k hl
      obtain ⟨s, hs⟩ : ∃ s, s = ss[k] := ⟨_, rfl⟩
      have HT := Lib.hid (wtL_take ss k hl)
      rw [← hs] at hca HT
      have hi0 : (0 : Int) ≤ (k : Int) := by omega
      clear hc hs
      have hv0 : IntKind.i64.wrap ((m : Int) + min (s.size : Int) 5000) = (m : Int) + min (s.size : Int) 5000 := IntWalk.i64_in _ (by omega)
      go_wp2_with fail
      go_round
      case rel => exact ⟨k + 1, m + min s.size 5000, nat_eq (by omega), by go_num, by omega, Lib.hid (by rw [HT.out, ← HM.out])⟩
      case measure => simp [intOf] <;> omega
    · have hd1 : decide ((k : Int) < (n : Int)) = false := decide_eq_false (by omega)
      have hm1 : m ≤ 100000 := by omega
      have HM1 := Lib.hid (show m = wtL ss by rw [HM.out, List.take_of_length_le (by rw [L.out]; omega)])
      obtain ⟨m0, hm0⟩ : ∃ m0, m0 = m := ⟨_, rfl⟩
      have HM0 := Lib.hid hm0
      rw [← hm0] at HM1
      clear hm0
      go_wp2_with fail
      clear hd1
      go_loopw [5, 7] (fun s i wr => ∃ k m : Nat, s = .int .i64 (m : Int) ∧ i = .int .i64 (k : Int) ∧ k ≤ n2 ∧ Hid (m = m0 + wtP (ps.take k)) ∧ Below w.heap.size w wr) (fun _ i _ => n2 - (intOf i).toNat)
      case atStart => exact ⟨0, m, rfl, rfl, Nat.zero_le _, Lib.hid HM0.out.symm, HB1.out⟩
      case round =>
        have hm1 : m0 ≤ 100000 := by rw [HM0.out]; exact hm1
        clear hlt hk hmm
        obtain ⟨k, m, rfl, rfl, hk, HN, hb⟩ := hrel
        have hmm : m ≤ 100000 + 10000 * k := by rw [HN.out]; have := wtP_le (ps.take k); rw [List.length_take] at this; omega
        have HB := Lib.hid hb
        clear hb
        by_cases hlt : k < n2
        · have hd1 : decide ((k : Int) < (n2 : Int)) = true := decide_eq_true (by omega)
          obtain ⟨b, off, hl, rfl, hbb, _⟩ := (H.out.p.below HB.out).at hlt
          have HT := Lib.hid (wtP_take ps k hl)
          obtain ⟨x, hx⟩ : ∃ x, ps[k] = x := ⟨_, rfl⟩
          rw [hx] at HT
          have HX := Lib.hid (show ps[k]? = some x by rw [List.getElem?_eq_getElem hl, hx])
          obtain ⟨s, a, d, v⟩ := x
          have hi0 : (0 : Int) ≤ (k : Int) := by omega
          clear hx
          have hv0 : IntKind.i64.wrap ((m : Int) + min (s.size : Int) 5000) = (m : Int) + min (s.size : Int) 5000 := IntWalk.i64_in _ (by omega)
          have hv1 : IntKind.i64.wrap (((m : Int) + min (s.size : Int) 5000) + min (v.size : Int) 5000) = ((m : Int) + min (s.size : Int) 5000) + min (v.size : Int) 5000 := IntWalk.i64_in _ (by omega)
          have hc101 : wr.cell? ⟨b, off + k * 4, none⟩ = some (.string s) := (H.out.p.below HB.out).cellAt HX.out hlt 0 _ rfl
          have hc102 : wr.cell? ⟨b, off + k * 4 + 3, none⟩ = some (.string v) := (H.out.p.below HB.out).cellAt HX.out hlt 3 _ rfl
          go_wp2_with fail
          have Rhc101 := fun d os => cell_regrown hc101 d os
          have Rhc102 := fun d os => cell_regrown hc102 d os
          refine wp_region_quiet_below (by kernel_rfl) (by kernel_rfl) ?_
          repeat (any_goals (first | go_big_quiet_step (fail) | quiet_step (fail) | (refine wpQuiet_step (fun K hK => ?_); go_simp; refine hK _ ?_; clear hK K)))
          refine wpQuiet_nil ?_
          intro w11 hw11
          have hb11 := below_anyY hw11
          clear hw11 Rhc101 Rhc102
          clear hc101 hc102
          have HB2 := Lib.hid (HB.out.trans (hb11.mono HB.out.size))
          clear hb11
          clear hv0 hv1
          go_wp2_with fail
          go_roundw
          case rel => exact ⟨k + 1, m + min s.size 5000 + min v.size 5000, nat_eq (by omega), by go_num, by omega, Lib.hid (by rw [HT.out, ← Nat.add_assoc, ← HN.out, Nat.add_assoc]), HB2.out⟩
          case measure => simp [intOf] <;> omega
        · have hd1 : decide ((k : Int) < (n2 : Int)) = false := decide_eq_false (by omega)
          go_wp2_with fail
          go_ret
          have HE := Lib.hid (show (m : Int) = (wt ss ps : Int) by rw [show wt ss ps = wtL ss + wtP ps by unfold wt; rw [if_neg (by rw [L.out, L2.out]; omega)], ← HM1.out, HN.out, List.take_of_length_le (by rw [L2.out]; omega)])
          exact ⟨retI HE.out, HB.out⟩
set_option maxRecDepth 100000 in
set_option maxHeartbeats 4000000 in
theorem few26_any (A A2 : Option Addr) (n c n2 c2 : Nat) (X : List Nd) (Y : List Ed) (w : World) (h : GrIs w A n A2 n2 X Y) :
    Calls Tryz.prog 5 #[.agg #[.slice A n c, .slice A2 n2 c2]] w (RetBool (n ≤ 40 ∧ n2 ≤ 60) w) := by
  have H := Lib.hid h
  have HL := Lib.hid h.nl
  clear h
  by_cases g1 : n ≤ 40
  rotate_left
  · have d1 : decide ((40 : Int) < (n : Int)) = true := decide_eq_true (by omega)
    have HB1 := Lib.hid (Below.refl w.heap.size w)
    go_enter Tryz.func5, Tryz.ntmps5
    have HF2 := Lib.hid (blk_new w (.cells #[.slice A n c, .slice A2 n2 c2] 25 (0, 0)))
    have HB3 := Lib.hid (HB1.out.alloc HB1.out.size (.cells #[.slice A n c, .slice A2 n2 c2] 25 (0, 0)))
    clear HB1
    have hc4 : (w.alloc (.cells #[.slice A n c, .slice A2 n2 c2] 25 (0, 0))).cell? ⟨w.heap.size, 0, none⟩ = some (.slice A n c) := by rw [cell_of_row _ _ _ _ _ _ HF2.out]; rfl
    have hc5 : (w.alloc (.cells #[.slice A n c, .slice A2 n2 c2] 25 (0, 0))).cell? ⟨w.heap.size, 1, none⟩ = some (.slice A2 n2 c2) := by rw [cell_of_row _ _ _ _ _ _ HF2.out]; rfl
    go_wp2_with fail
    go_ret
    exact ⟨false, rfl, (fun h => by cases h), HB3.out⟩
  have d1 : decide ((40 : Int) < (n : Int)) = false := decide_eq_false (by omega)
  by_cases g2 : n2 ≤ 60
  rotate_left
  · have d2 : decide ((60 : Int) < (n2 : Int)) = true := decide_eq_true (by omega)
    have HB1 := Lib.hid (Below.refl w.heap.size w)
    go_enter Tryz.func5, Tryz.ntmps5
    have HF2 := Lib.hid (blk_new w (.cells #[.slice A n c, .slice A2 n2 c2] 25 (0, 0)))
    have HB3 := Lib.hid (HB1.out.alloc HB1.out.size (.cells #[.slice A n c, .slice A2 n2 c2] 25 (0, 0)))
    clear HB1
    have hc4 : (w.alloc (.cells #[.slice A n c, .slice A2 n2 c2] 25 (0, 0))).cell? ⟨w.heap.size, 0, none⟩ = some (.slice A n c) := by rw [cell_of_row _ _ _ _ _ _ HF2.out]; rfl
    have hc5 : (w.alloc (.cells #[.slice A n c, .slice A2 n2 c2] 25 (0, 0))).cell? ⟨w.heap.size, 1, none⟩ = some (.slice A2 n2 c2) := by rw [cell_of_row _ _ _ _ _ _ HF2.out]; rfl
    go_wp2_with fail
    go_ret
    exact ⟨false, rfl, (fun h => by cases h), HB3.out⟩
  have d2 : decide ((60 : Int) < (n2 : Int)) = false := decide_eq_false (by omega)
  have HB1 := Lib.hid (Below.refl w.heap.size w)
  go_enter Tryz.func5, Tryz.ntmps5
  have HF2 := Lib.hid (blk_new w (.cells #[.slice A n c, .slice A2 n2 c2] 25 (0, 0)))
  have HB3 := Lib.hid (HB1.out.alloc HB1.out.size (.cells #[.slice A n c, .slice A2 n2 c2] 25 (0, 0)))
  clear HB1
  have hc4 : (w.alloc (.cells #[.slice A n c, .slice A2 n2 c2] 25 (0, 0))).cell? ⟨w.heap.size, 0, none⟩ = some (.slice A n c) := by rw [cell_of_row _ _ _ _ _ _ HF2.out]; rfl
  have hc5 : (w.alloc (.cells #[.slice A n c, .slice A2 n2 c2] 25 (0, 0))).cell? ⟨w.heap.size, 1, none⟩ = some (.slice A2 n2 c2) := by rw [cell_of_row _ _ _ _ _ _ HF2.out]; rfl
  go_wp2_with fail
  clear hc4 hc5
  clear d1 d2
  go_loopw [3, 4] (fun s i wr => ∃ k m : Nat, s = .int .i64 (m : Int) ∧ i = .int .i64 (k : Int) ∧ k ≤ n ∧ m ≤ 600000 * k ∧ Below w.heap.size w wr ∧ wr.heap[w.heap.size]? = some (.cells #[.slice A n c, .slice A2 n2 c2] 25 (0, 0))) (fun _ i _ => n - (intOf i).toNat)
  case atStart => exact ⟨0, 0, rfl, rfl, Nat.zero_le _, by omega, HB3.out, HF2.out⟩
  case round =>
    obtain ⟨k, m, rfl, rfl, hk, hmm, hb, ha⟩ := hrel
    have HB := Lib.hid hb
    have HA := Lib.hid ha
    clear hb ha
    have ca0 : wr.cell? ⟨w.heap.size, 0, none⟩ = some (.slice A n c) := by rw [cell_of_row _ _ _ _ _ _ HA.out]; rfl
    have ca1 : wr.cell? ⟨w.heap.size, 1, none⟩ = some (.slice A2 n2 c2) := by rw [cell_of_row _ _ _ _ _ _ HA.out]; rfl
    by_cases hlt : k < n
    · have hd1 : decide ((k : Int) < (n : Int)) = true := decide_eq_true (by omega)
      have hi0 : (0 : Int) ≤ (k : Int) := by omega
      have hkl : k < X.length := by have := HL.out.1; omega
      obtain ⟨x, hxx⟩ : ∃ x, x = X[k] := ⟨_, rfl⟩
      have HK := Lib.hid (show X[k]? = some x by rw [List.getElem?_eq_getElem hkl, hxx])
      clear hxx
      obtain ⟨b1, o1, L1, q1, r1, M1, rfl, x0, x1, x2, hp1⟩ := (H.out.below HB.out).node hlt HK.out
      obtain ⟨i, ss, ps⟩ := x
      dsimp only at x0 x1 x2 hp1
      have HC := Lib.hid (fun (W : World) (g1 : LP W L1 ss.length ss M1 ps.length ps) => weight_any L1 M1 ss.length q1 ps.length r1 ss ps W g1)
      have HP1 := Lib.hid hp1
      clear hp1
      have hv0 : IntKind.i64.wrap ((m : Int) + min (i.size : Int) 5000) = (m : Int) + min (i.size : Int) 5000 := IntWalk.i64_in _ (by omega)
      obtain ⟨z, hz⟩ : ∃ z, z = wt ss ps := ⟨_, rfl⟩
      have hzl := wt_le ss ps
      rw [← hz] at HC hzl
      clear hz
      have hv1 : IntKind.i64.wrap (((m : Int) + min (i.size : Int) 5000) + (z : Int)) = ((m : Int) + min (i.size : Int) 5000) + (z : Int) := IntWalk.i64_in _ (by omega)
      generalize ss.length = ns at *
      generalize ps.length = np at *
      go_wp2_with fail
      have Rx0 := fun d os => cell_regrown x0 d os
      have Rx1 := fun d os => cell_regrown x1 d os
      have Rx2 := fun d os => cell_regrown x2 d os
      have Rca0 := fun d os => cell_regrown ca0 d os
      have Rca1 := fun d os => cell_regrown ca1 d os
      refine wp_region_quiet_below (by kernel_rfl) (by kernel_rfl) ?_
      repeat (any_goals (first | go_big_quiet_step ((go_at_call 27; with_reducible exact Calls.regrown_of (HC.out _ (HP1.out.below ((below_regrown _ _ _)))))) | quiet_step ((go_at_call 27; with_reducible exact Calls.regrown_of (HC.out _ (HP1.out.below ((below_regrown _ _ _)))))) | (refine wpQuiet_step (fun K hK => ?_); go_simp; refine hK _ ?_; clear hK K)))
      refine wpQuiet_nil ?_
      intro w11 hw11
      have hb11 := below_anyY hw11
      clear hw11 Rx0 Rx1 Rx2 Rca0 Rca1
      clear x0 x1 x2 ca0 ca1
      have HB2 := Lib.hid (HB.out.trans (hb11.mono HB.out.size))
      have HA2 := Lib.hid (blk_below HA.out hb11)
      clear hb11
      clear hv0 hv1
      go_wp2_with fail
      go_roundw
      case rel => exact ⟨k + 1, m + min i.size 5000 + z, nat_eq (by omega), by go_num, by omega, by omega, HB2.out, HA2.out⟩
      case measure => simp [intOf] <;> omega
    · have hd1 : decide ((k : Int) < (n : Int)) = false := decide_eq_false (by omega)
      have hm1 : m ≤ 24000000 := by omega
      go_wp2_with fail
      clear hd1 ca0 ca1
      go_loopw [3, 5] (fun s i wr => ∃ k m : Nat, s = .int .i64 (m : Int) ∧ i = .int .i64 (k : Int) ∧ k ≤ n2 ∧ m ≤ 24000000 + 600000 * k ∧ Below w.heap.size w wr ∧ wr.heap[w.heap.size]? = some (.cells #[.slice A n c, .slice A2 n2 c2] 25 (0, 0))) (fun _ i _ => n2 - (intOf i).toNat)
      case atStart => exact ⟨0, m, rfl, rfl, Nat.zero_le _, by omega, HB.out, HA.out⟩
      case round =>
        clear hlt hk hmm hm1 HB HA
        obtain ⟨k, m, rfl, rfl, hk, hmm, hb, ha⟩ := hrel
        have HB := Lib.hid hb
        have HA := Lib.hid ha
        clear hb ha
        have ca0 : wr.cell? ⟨w.heap.size, 0, none⟩ = some (.slice A n c) := by rw [cell_of_row _ _ _ _ _ _ HA.out]; rfl
        have ca1 : wr.cell? ⟨w.heap.size, 1, none⟩ = some (.slice A2 n2 c2) := by rw [cell_of_row _ _ _ _ _ _ HA.out]; rfl
        by_cases hlt : k < n2
        · have hd1 : decide ((k : Int) < (n2 : Int)) = true := decide_eq_true (by omega)
          have hi0 : (0 : Int) ≤ (k : Int) := by omega
          have hkl : k < Y.length := by have := HL.out.2; omega
          obtain ⟨x, hxx⟩ : ∃ x, x = Y[k] := ⟨_, rfl⟩
          have HK := Lib.hid (show Y[k]? = some x by rw [List.getElem?_eq_getElem hkl, hxx])
          clear hxx
          obtain ⟨b1, o1, L1, q1, r1, M1, rfl, x0, x1, x2, x3, x4, hp1⟩ := (H.out.below HB.out).edge hlt HK.out
          obtain ⟨i, f, g, ss, ps⟩ := x
          dsimp only at x0 x1 x2 x3 x4 hp1
          have HC := Lib.hid (fun (W : World) (g1 : LP W L1 ss.length ss M1 ps.length ps) => weight_any L1 M1 ss.length q1 ps.length r1 ss ps W g1)
          have HP1 := Lib.hid hp1
          clear hp1
          obtain ⟨z, hz⟩ : ∃ z, z = wt ss ps := ⟨_, rfl⟩
          have hzl := wt_le ss ps
          rw [← hz] at HC hzl
          clear hz
          have hv0 : IntKind.i64.wrap ((m : Int) + min (i.size : Int) 5000) = (m : Int) + min (i.size : Int) 5000 := IntWalk.i64_in _ (by omega)
          have hv1 : IntKind.i64.wrap (((m : Int) + min (i.size : Int) 5000) + min (f.size : Int) 5000) = ((m : Int) + min (i.size : Int) 5000) + min (f.size : Int) 5000 := IntWalk.i64_in _ (by omega)
          have hv2 : IntKind.i64.wrap ((((m : Int) + min (i.size : Int) 5000) + min (f.size : Int) 5000) + min (g.size : Int) 5000) = (((m : Int) + min (i.size : Int) 5000) + min (f.size : Int) 5000) + min (g.size : Int) 5000 := IntWalk.i64_in _ (by omega)
          have hv3 : IntKind.i64.wrap (((((m : Int) + min (i.size : Int) 5000) + min (f.size : Int) 5000) + min (g.size : Int) 5000) + (z : Int)) = ((((m : Int) + min (i.size : Int) 5000) + min (f.size : Int) 5000) + min (g.size : Int) 5000) + (z : Int) := IntWalk.i64_in _ (by omega)
          generalize ss.length = ns at *
          generalize ps.length = np at *
          have HB0 := Lib.hid (Below.refl wr.heap.size wr)
          have HAA := Lib.hid (blk_alloc HA.out (.cells #[.string i, .string f, .string g, .slice L1 ns q1, .slice M1 np r1] 36 (0, 0)))
          have HF101 := Lib.hid (blk_new wr (.cells #[.string i, .string f, .string g, .slice L1 ns q1, .slice M1 np r1] 36 (0, 0)))
          have HB102 := Lib.hid (HB0.out.alloc HB0.out.size (.cells #[.string i, .string f, .string g, .slice L1 ns q1, .slice M1 np r1] 36 (0, 0)))
          clear HB0
          have hc103 : (wr.alloc (.cells #[.string i, .string f, .string g, .slice L1 ns q1, .slice M1 np r1] 36 (0, 0))).cell? ⟨wr.heap.size, 0, none⟩ = some (.string i) := by rw [cell_of_row _ _ _ _ _ _ HF101.out]; rfl
          have hc104 : (wr.alloc (.cells #[.string i, .string f, .string g, .slice L1 ns q1, .slice M1 np r1] 36 (0, 0))).cell? ⟨wr.heap.size, 1, none⟩ = some (.string f) := by rw [cell_of_row _ _ _ _ _ _ HF101.out]; rfl
          have hc105 : (wr.alloc (.cells #[.string i, .string f, .string g, .slice L1 ns q1, .slice M1 np r1] 36 (0, 0))).cell? ⟨wr.heap.size, 2, none⟩ = some (.string g) := by rw [cell_of_row _ _ _ _ _ _ HF101.out]; rfl
          have hc106 : (wr.alloc (.cells #[.string i, .string f, .string g, .slice L1 ns q1, .slice M1 np r1] 36 (0, 0))).cell? ⟨wr.heap.size, 3, none⟩ = some (.slice L1 ns q1) := by rw [cell_of_row _ _ _ _ _ _ HF101.out]; rfl
          have hc107 : (wr.alloc (.cells #[.string i, .string f, .string g, .slice L1 ns q1, .slice M1 np r1] 36 (0, 0))).cell? ⟨wr.heap.size, 4, none⟩ = some (.slice M1 np r1) := by rw [cell_of_row _ _ _ _ _ _ HF101.out]; rfl
          go_wp2_with fail
          clear x0 x1 x2 x3 x4 ca0 ca1
          have Rhc103 := fun d os => cell_regrown hc103 d os
          have Rhc104 := fun d os => cell_regrown hc104 d os
          have Rhc105 := fun d os => cell_regrown hc105 d os
          have Rhc106 := fun d os => cell_regrown hc106 d os
          have Rhc107 := fun d os => cell_regrown hc107 d os
          refine wp_region_quiet_below (by kernel_rfl) (by kernel_rfl) ?_
          repeat (any_goals (first | go_big_quiet_step ((go_at_call 27; with_reducible exact Calls.regrown_of (HC.out _ (HP1.out.below (HB102.out.trans ((below_regrown _ _ _).mono HB102.out.size)))))) | quiet_step ((go_at_call 27; with_reducible exact Calls.regrown_of (HC.out _ (HP1.out.below (HB102.out.trans ((below_regrown _ _ _).mono HB102.out.size)))))) | (refine wpQuiet_step (fun K hK => ?_); go_simp; refine hK _ ?_; clear hK K)))
          refine wpQuiet_nil ?_
          intro w11 hw11
          have hb11 := below_anyY hw11
          clear hw11 Rhc103 Rhc104 Rhc105 Rhc106 Rhc107
          clear hc103 hc104 hc105 hc106 hc107
          have HB2 := Lib.hid (HB102.out.trans (hb11.mono HB102.out.size))
          have HA2 := Lib.hid (blk_below HAA.out hb11)
          clear hb11
          clear hv0 hv1 hv2 hv3
          go_wp2_with fail
          go_roundw
          case rel => exact ⟨k + 1, m + min i.size 5000 + min f.size 5000 + min g.size 5000 + z, nat_eq (by omega), by go_num, by omega, by omega, HB.out.trans (HB2.out.mono HB.out.size), HA2.out⟩
          case measure => simp [intOf] <;> omega
        · have hd1 : decide ((k : Int) < (n2 : Int)) = false := decide_eq_false (by omega)
          go_wp2_with fail
          all_goals
            go_ret
            exact ⟨_, rfl, (fun _ => ⟨by omega, by omega⟩), HB.out⟩
end Go.Proofs.YtagenkofoacajaaGreat

namespace Go.Proofs.YtagenkofoacajaaGreat
open Go.RowKit Vi

abbrev ShPr : Sh := .pair .str (.pair (.int .i64) (.pair (.int .i64) .str))
abbrev ShN : Sh := .pair .str (.pair (.slice .str) (.slice ShPr))
abbrev ShE : Sh := .pair .str (.pair .str (.pair .str (.pair (.slice .str) (.slice ShPr))))
def saOf {α : Type} (x : SlX α) : SlA := ⟨x.a, x.n, x.c⟩
def rawN (r : ShN.Den) : NdR := (r.1, saOf r.2.1, saOf r.2.2)
def rawE (r : ShE.Den) : EdR := (r.1, r.2.1, r.2.2.1, saOf r.2.2.2.1, saOf r.2.2.2.2)
def ndOf (r : ShN.Den) : Nd := (r.1, r.2.1.l, r.2.2.l)
def edOf (r : ShE.Den) : Ed := (r.1, r.2.1, r.2.2.1, r.2.2.2.1.l, r.2.2.2.2.l)
theorem RdX.map {α β : Type} {f : α → List Value} {g : β → List Value} {s : Nat} {w : World} {A : Option Addr} {n : Nat} {l : List α} (φ : α → β) (hf : ∀ x, g (φ x) = f x) (h : RdX f s w A n l) : RdX g s w A n (l.map φ) :=
  ⟨by rw [List.length_map]; exact h.1, fun hn => by
    obtain ⟨b, off, e, hlt, hc⟩ := h.2 hn
    refine ⟨b, off, e, hlt, fun k x j u hx hu => ?_⟩
    rw [List.getElem?_map] at hx
    cases hy : l[k]? with
    | none => rw [hy] at hx; cases hx
    | some y =>
      rw [hy] at hx
      injection hx with hx
      subst hx
      rw [hf] at hu
      exact hc k y j u hy hu⟩
theorem sln_sh {w : World} {A : Option Addr} {n : Nat} {l : List ByteArray} (h : RdX (Sh.cells .str) 1 w A n l) : SlN w A n l :=
  ⟨h.1, fun hp => by
    obtain ⟨b, off, e, _, hc⟩ := h.2 hp
    refine ⟨b, off, e, fun i hi => ?_⟩
    have := hc i l[i] 0 (.string l[i]) (List.getElem?_eq_getElem hi) rfl
    rwa [Nat.mul_one, Nat.add_zero] at this⟩
theorem lp_sh {w : World} (x : SlX ByteArray) (y : SlX Pr) (h : Sh.Ok w (.slice .str) x) (k : Sh.Ok w (.slice ShPr) y) : LP w x.a x.n x.l y.a y.n y.l ∧ LOk x.l.length x.l y.l.length y.l ∧ (x.n ≤ x.c ∧ x.c ≤ maxLen) ∧ (y.n ≤ y.c ∧ y.c ≤ maxLen) := by
  obtain ⟨h1, h2, h3, h4⟩ := h
  obtain ⟨k1, k2, k3, k4⟩ := k
  have e1 : x.l.length = x.n := h1.1
  have e2 : y.l.length = y.n := k1.1
  refine ⟨⟨sln_sh h1, k1⟩, ⟨by omega, by omega, fun s hs => h4 s hs, fun p hp => (k4 p hp).1⟩, ⟨h2, h3⟩, ⟨k2, k3⟩⟩
theorem gr_of {w : World} (x : SlX ShN.Den) (y : SlX ShE.Den) (h : Sh.Ok w (.slice ShN) x) (k : Sh.Ok w (.slice ShE) y) : GrIs w x.a x.n y.a y.n (x.l.map ndOf) (y.l.map edOf) ∧ GrOk (x.l.map ndOf) (y.l.map edOf) := by
  obtain ⟨h1, h2, h3, h4⟩ := h
  obtain ⟨k1, k2, k3, k4⟩ := k
  refine ⟨⟨⟨x.l.map rawN, h1.map rawN (fun _ => rfl), by simp, ?_⟩, ⟨y.l.map rawE, k1.map rawE (fun _ => rfl), by simp, ?_⟩⟩, ⟨?_, ?_⟩⟩
  · intro i r z hr hz
    rw [List.getElem?_map] at hr hz
    cases hq : x.l[i]? with
    | none => rw [hq] at hr; cases hr
    | some q =>
      rw [hq] at hr hz
      injection hr with hr
      injection hz with hz
      subst hr hz
      obtain ⟨_, o2, o3⟩ := h4 q (List.mem_of_getElem? hq)
      obtain ⟨p1, _, p3, p4⟩ := lp_sh q.2.1 q.2.2 o2 o3
      exact ⟨rfl, p1, p3, p4⟩
  · intro i r z hr hz
    rw [List.getElem?_map] at hr hz
    cases hq : y.l[i]? with
    | none => rw [hq] at hr; cases hr
    | some q =>
      rw [hq] at hr hz
      injection hr with hr
      injection hz with hz
      subst hr hz
      obtain ⟨_, _, _, o2, o3⟩ := k4 q (List.mem_of_getElem? hq)
      obtain ⟨p1, _, p3, p4⟩ := lp_sh q.2.2.2.1 q.2.2.2.2 o2 o3
      exact ⟨rfl, rfl, rfl, p1, p3, p4⟩
  · intro z hz
    obtain ⟨q, hq, rfl⟩ := List.mem_map.1 hz
    obtain ⟨o1, o2, o3⟩ := h4 q hq
    obtain ⟨_, p2, _⟩ := lp_sh q.2.1 q.2.2 o2 o3
    exact ⟨o1, p2⟩
  · intro z hz
    obtain ⟨q, hq, rfl⟩ := List.mem_map.1 hz
    obtain ⟨o1, o2, o3, o4, o5⟩ := k4 q hq
    obtain ⟨_, p2, _⟩ := lp_sh q.2.2.2.1 q.2.2.2.2 o4 o5
    exact ⟨o1, o2, o3, p2⟩
end Go.Proofs.YtagenkofoacajaaGreat
