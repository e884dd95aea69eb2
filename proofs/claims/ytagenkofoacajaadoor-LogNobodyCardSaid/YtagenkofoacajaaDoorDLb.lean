/- A disk's state: what is safe and what is cached as rows of its own; a cell of a row of texts is stored into. No condition. -/
import Derived.Test.YtagenkofoacajaaDoorDKa
import Derived.Test.YtagenkofoacajaaDoorStB
namespace Go.Proofs.YtagenkofoacajaaDoor
open Go.RowKit Vi

abbrev Wr := Int × ByteArray
def wrC (x : Wr) : List Value := [.int .i64 x.1, .string x.2]
theorem wrC_len (x : Wr) : (wrC x).length = 2 := rfl
theorem wrC_one (x : Wr) : ∀ u ∈ wrC x, u.oneCell' = true := by
  intro u hu
  simp [wrC] at hu
  rcases hu with rfl | rfl <;> rfl
theorem info_wrB : (Tryd.prog.info? 112).map (fun i => (i.zero, i.size, i.bytes)) = some (some (.agg #[.int .i64 0, .string ⟨#[]⟩]), 2, 24) := by kernel_rfl
theorem flat_st (l : List ByteArray) : flat stC l = l.map Value.string := by
  induction l with
  | nil => rfl
  | cons x r ih =>
    show stC x ++ flat stC r = _
    rw [ih]
    rfl
theorem OwX.setS {w : World} {B g n c i : Nat} {T : TypeId} {SS : List ByteArray} (s : ByteArray) (h : OwX stC 1 T w B (.slice (some ⟨g, 0, none⟩) n c) SS) : OwX stC 1 T (w.setCell ⟨g, i, none⟩ (.string s)) B (.slice (some ⟨g, 0, none⟩) n c) (SS.set i s) := by
  unfold OwX at h ⊢
  rw [flat_st] at h ⊢
  rcases h with ⟨h1, h | ⟨g', cap, cur, h2, h3, h4, h5, h6, h7, h8⟩⟩
  · cases h.1
  · injection h2 with e1 e2 e3
    injection e1 with e1
    injection e1 with e1
    subst e1
    refine ⟨by rw [List.length_map, List.length_set] at *; exact h1, .inr ⟨g, cap, cur.setIfInBounds i (.string s), by rw [List.length_set, e2, e3], h3, ?_, by rw [List.length_set]; exact h5, h6, by rw [Array.size_setIfInBounds]; exact h7, ?_⟩⟩
    · exact heap_setCell_at (i := i) (u := .string s) h4
    · rw [Array.toList_setIfInBounds, List.length_set, List.take_set, h8, List.map_set]
theorem OwX.kkD {α : Type} {f : α → List Value} {s : Nat} {T : TypeId} {w W : World} {B g : Nat} {v : Value} {l : List α} {cs : Array Value} {T' : TypeId} {fr : Nat × Nat} (h : OwX f s T w B v l) (k : KK [g] w W) (hg : w.heap[g]? = some (.cells cs T' fr)) (hT : T ≠ T') : OwX f s T W B v l := by
  rcases h with ⟨h1, h | ⟨b, cap, cur, h2, h3, h4, h5⟩⟩
  · exact ⟨h1, .inl h⟩
  · exact ⟨h1, .inr ⟨b, cap, cur, h2, h3, k.blk h4 (fun e => by
      have e1 : b = g := by simpa using e
      subst e1
      rw [hg] at h4
      cases h4
      exact hT rfl), h5⟩⟩
/-- a disk that is there -/
structure DK (D : Nat) (SS : List ByteArray) (CC : List Wr) (dn : Bool) (ops fu : Int) (w : World) : Prop where
  box : ∃ (sa : Option Addr) (sn sc : Nat) (ca : Option Addr) (cn cc : Nat), w.heap[D]? = some (dkO sa sn sc ca cn cc true dn ops fu) ∧ OwX stC 1 9 w 0 (.slice sa sn sc) SS ∧ OwX wrC 2 112 w 0 (.slice ca cn cc) CC
  at' : ∀ x ∈ CC, 0 ≤ x.1 ∧ x.1 < (SS.length : Int) ∧ x.2.size = 128
theorem DK.kept {D : Nat} {SS : List ByteArray} {CC : List Wr} {dn : Bool} {ops fu : Int} {w w' : World} (h : DK D SS CC dn ops fu w) (hb : Below w.heap.size w w') : DK D SS CC dn ops fu w' := by
  obtain ⟨⟨sa, sn, sc, ca, cn, cc, h1, h2, h3⟩, h4⟩ := h
  exact ⟨⟨sa, sn, sc, ca, cn, cc, blk_below h1 hb, h2.kept hb, h3.kept hb⟩, h4⟩
/-- a block is a disk's own: its box, or that of one of its rows -/
def InD (D : Nat) (w : World) (b : Nat) : Prop := b = D ∨ (∃ o n c, w.cell? ⟨D, 0, none⟩ = some (.slice (some ⟨b, o, none⟩) n c)) ∨ (∃ o n c, w.cell? ⟨D, 1, none⟩ = some (.slice (some ⟨b, o, none⟩) n c))
/-- only a disk's own blocks have turned, and no other old one has become its own -/
structure Kd (D : Nat) (w w' : World) : Prop where
  os : w'.os = w.os
  tape : w'.tape = w.tape
  output : w'.output = w.output
  size : w.heap.size ≤ w'.heap.size
  block : ∀ b, b < w.heap.size → ¬ InD D w b → w'.heap[b]? = w.heap[b]?
  ind : ∀ b, b < w.heap.size → InD D w' b → InD D w b
theorem Kd.refl (D : Nat) (w : World) : Kd D w w := ⟨rfl, rfl, rfl, Nat.le_refl _, fun _ _ _ => rfl, fun _ _ h => h⟩
theorem Kd.trans {D : Nat} {a b c : World} (h : Kd D a b) (k : Kd D b c) : Kd D a c :=
  ⟨k.os.trans h.os, k.tape.trans h.tape, k.output.trans h.output, Nat.le_trans h.size k.size, fun i hi hn => (k.block i (Nat.lt_of_lt_of_le hi h.size) (fun q => hn (h.ind i hi q))).trans (h.block i hi hn), fun i hi q => h.ind i hi (k.ind i (Nat.lt_of_lt_of_le hi h.size) q)⟩
theorem Kd.of_below {D : Nat} {w w' : World} (hb : Below w.heap.size w w') (hD : D < w.heap.size) : Kd D w w' :=
  ⟨hb.os, hb.tape, hb.output, hb.size, fun b hb' _ => hb.block b hb', fun b _ q => by
    rcases q with q | ⟨o, n, c, q⟩ | ⟨o, n, c, q⟩
    · exact .inl q
    · exact .inr (.inl ⟨o, n, c, by rw [← hb.cell (p := ⟨D, 0, none⟩) hD]; exact q⟩)
    · exact .inr (.inr ⟨o, n, c, by rw [← hb.cell (p := ⟨D, 1, none⟩) hD]; exact q⟩)⟩
theorem InD.self (D : Nat) (w : World) : InD D w D := .inl rfl
section
variable {D : Nat} {sa : Option Addr} {sn sc : Nat} {ca : Option Addr} {cn cc : Nat} {mk dn : Bool} {ops fu : Int} {w : World}
theorem InD.safe {g o : Nat} (h : w.heap[D]? = some (dkO (some ⟨g, o, none⟩) sn sc ca cn cc mk dn ops fu)) : InD D w g := .inr (.inl ⟨o, sn, sc, (dk_cells h).1⟩)
theorem InD.cache {g o : Nat} (h : w.heap[D]? = some (dkO sa sn sc (some ⟨g, o, none⟩) cn cc mk dn ops fu)) : InD D w g := .inr (.inr ⟨o, cn, cc, (dk_cells h).2.1⟩)
theorem InD.cases {b : Nat} (h : w.heap[D]? = some (dkO sa sn sc ca cn cc mk dn ops fu)) (q : InD D w b) : b = D ∨ (∃ o, sa = some ⟨b, o, none⟩) ∨ ∃ o, ca = some ⟨b, o, none⟩ := by
  rcases q with q | ⟨o, n, c, q⟩ | ⟨o, n, c, q⟩
  · exact .inl q
  · rw [(dk_cells h).1] at q
    cases q
    exact .inr (.inl ⟨o, rfl⟩)
  · rw [(dk_cells h).2.1] at q
    cases q
    exact .inr (.inr ⟨o, rfl⟩)
theorem Kd.of_box {sa' : Option Addr} {sn' sc' : Nat} {ca' : Option Addr} {cn' cc' : Nat} {mk' dn' : Bool} {ops' fu' : Int} {w' : World} {l : List Nat} (k : KK l w w') (hl : ∀ b ∈ l, InD D w b)
    (h : w.heap[D]? = some (dkO sa sn sc ca cn cc mk dn ops fu)) (h' : w'.heap[D]? = some (dkO sa' sn' sc' ca' cn' cc' mk' dn' ops' fu'))
    (hs : ∀ b o, sa' = some ⟨b, o, none⟩ → InD D w b ∨ w.heap.size ≤ b) (hc : ∀ b o, ca' = some ⟨b, o, none⟩ → InD D w b ∨ w.heap.size ≤ b) : Kd D w w' :=
  ⟨k.os, k.tape, k.output, k.size, fun b hb hn => k.block b hb (fun q => hn (hl b q)), fun b hb q => by
    rcases q.cases h' with q | ⟨o, q⟩ | ⟨o, q⟩
    · subst q; exact .inl rfl
    · rcases hs b o q with r | r
      · exact r
      · omega
    · rcases hc b o q with r | r
      · exact r
      · omega⟩
/-- the box's rows stay -/
theorem Kd.of_same {mk' dn' : Bool} {ops' fu' : Int} {w' : World} (k : KK [D] w w') (h : w.heap[D]? = some (dkO sa sn sc ca cn cc mk dn ops fu)) (h' : w'.heap[D]? = some (dkO sa sn sc ca cn cc mk' dn' ops' fu')) : Kd D w w' :=
  Kd.of_box k (fun b hb => by obtain rfl : b = D := (by simpa using hb); exact .inl rfl) h h' (fun b o e => .inl (by subst e; exact InD.safe h)) (fun b o e => .inl (by subst e; exact InD.cache h))
/-- the cache is gone -/
theorem Kd.of_none {mk' dn' : Bool} {ops' fu' : Int} {w' : World} (k : KK [D] w w') (h : w.heap[D]? = some (dkO sa sn sc ca cn cc mk dn ops fu)) (h' : w'.heap[D]? = some (dkO sa sn sc none 0 0 mk' dn' ops' fu')) : Kd D w w' :=
  Kd.of_box k (fun b hb => by obtain rfl : b = D := (by simpa using hb); exact .inl rfl) h h' (fun b o e => .inl (by subst e; exact InD.safe h)) (fun b o e => by cases e)
end
theorem DK.lt {D : Nat} {SS : List ByteArray} {CC : List Wr} {dn : Bool} {ops fu : Int} {w : World} (h : DK D SS CC dn ops fu w) : D < w.heap.size := by
  obtain ⟨⟨sa, sn, sc, ca, cn, cc, h1, h2, h3⟩, h4⟩ := h
  exact lt_of_block h1
theorem own_lt {α : Type} {f : α → List Value} {s : Nat} {T : TypeId} {w : World} {B g o n c : Nat} {l : List α} (h : OwX f s T w B (.slice (some ⟨g, o, none⟩) n c) l) : g < w.heap.size := by
  rcases h.2 with ⟨e, _⟩ | ⟨g', cap, cur, e, _, h4, _⟩
  · cases e
  · injection e with e _ _
    injection e with e
    injection e with e _ _
    subst e
    exact lt_of_block h4
/-- what is new is none of a disk's own -/
theorem DK.new {D : Nat} {SS : List ByteArray} {CC : List Wr} {dn : Bool} {ops fu : Int} {w : World} (h : DK D SS CC dn ops fu w) {b : Nat} (q : InD D w b) : b < w.heap.size := by
  obtain ⟨⟨sa, sn, sc, ca, cn, cc, h1, h2, h3⟩, h4⟩ := h
  rcases q.cases h1 with q | ⟨o, q⟩ | ⟨o, q⟩
  · subst q; exact lt_of_block h1
  · subst q; exact own_lt h2
  · subst q; exact own_lt h3
/-- a row that reads as a list and is none of a disk's own -/
def RdA {α : Type} (D : Nat) (f : α → List Value) (s : Nat) (w : World) (A : Option Addr) (n : Nat) (l : List α) : Prop := RdX f s w A n l ∧ (0 < n → ∀ b o, A = some ⟨b, o, none⟩ → ¬ InD D w b)
theorem RdA.kd {α : Type} {D : Nat} {f : α → List Value} {s : Nat} {w w' : World} {A : Option Addr} {n : Nat} {l : List α} (h : RdA D f s w A n l) (k : Kd D w w') : RdA D f s w' A n l := by
  obtain ⟨⟨h1, h2⟩, h3⟩ := h
  refine ⟨⟨h1, fun hn => ?_⟩, fun hn b o e q => ?_⟩
  · obtain ⟨b, off, e, hb, hc⟩ := h2 hn
    exact ⟨b, off, e, Nat.lt_of_lt_of_le hb k.size, fun i x j u hx hu => (World.cell?_of_block (k.block b hb (h3 hn b off e))).trans (hc i x j u hx hu)⟩
  · obtain ⟨b', off, e', hb, hc⟩ := h2 hn
    rw [e] at e'
    injection e' with e'
    injection e' with e1 e2 e3
    subst e1
    exact h3 hn b o e (k.ind b hb q)
end Go.Proofs.YtagenkofoacajaaDoor
