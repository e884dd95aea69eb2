/- Shapes of plain data: what came in, read once and for all as Lean data: integers, bools, strings, structs (in structs), slices of these. -/
import Derived.Test.YtiflieaemgamkaaGreatDoorPr
import Derived.ProofKit
import Derived.ChangeArms
import Derived.Deep.Slices
import Derived.OpenShut
import Derived.Lib.SmallJoins
import Derived.Deep.Fields
import Derived.ChangeSame
namespace Go.Proofs.YtiflieaemgamkaaGreatDoor
open Go.RowKit

inductive Sh where
  | int (k : IntKind)
  | bool
  | str
  | slice (s : Sh)
  | pair (a b : Sh)
/-- a slice that came in: its value, and the list that it reads as -/
structure SlX (α : Type) where
  a : Option Addr
  n : Nat
  c : Nat
  l : List α
namespace Sh
def size : Sh → Nat
  | int _ => 1
  | bool => 1
  | str => 1
  | slice _ => 1
  | pair a b => a.size + b.size
def Den : Sh → Type
  | int _ => Int
  | bool => Bool
  | str => ByteArray
  | slice s => SlX s.Den
  | pair a b => a.Den × b.Den
def cells : (s : Sh) → s.Den → List Value
  | int k, n => [.int k n]
  | bool, b => [.bool b]
  | str, s => [.string s]
  | slice _, x => [.slice x.a x.n x.c]
  | pair a b, x => a.cells x.1 ++ b.cells x.2
theorem cells_len : ∀ (s : Sh) (x : s.Den), (s.cells x).length = s.size
  | int _, _ => rfl
  | bool, _ => rfl
  | str, _ => rfl
  | slice _, _ => rfl
  | pair a b, x => by
    show (a.cells x.1 ++ b.cells x.2).length = a.size + b.size
    rw [List.length_append, cells_len a, cells_len b]
def Ok (w : World) : (s : Sh) → s.Den → Prop
  | int k, n => (Lit.int k n).wf = true
  | bool, _ => True
  | str, s => s.size ≤ maxLen
  | slice s, x => RdX s.cells s.size w x.a x.n x.l ∧ x.n ≤ x.c ∧ x.c ≤ maxLen ∧ ∀ y ∈ x.l, Ok w s y
  | pair a b, x => Ok w a x.1 ∧ Ok w b x.2
theorem Ok.below {w w' : World} (hb : Below w.heap.size w w') : ∀ (s : Sh) (x : s.Den), Ok w s x → Ok w' s x
  | int _, _, h => h
  | bool, _, h => h
  | str, _, h => h
  | slice s, _, h => ⟨h.1.below hb, h.2.1, h.2.2.1, fun y hy => Ok.below hb s y (h.2.2.2 y hy)⟩
  | pair a b, _, h => ⟨Ok.below hb a _ h.1, Ok.below hb b _ h.2⟩
/-- does a struct's row of fields fit a shape? -/
def fitL (g : Sh → TypeId → Bool) (sz : TypeId → Nat) : List Field → Sh → Nat → Bool
  | [], _, _ => false
  | [f], s, o => f.offset == o && sz f.type == s.size && g s f.type
  | f :: f' :: r, pair a b, o => f.offset == o && sz f.type == a.size && g a f.type && fitL g sz (f' :: r) b (o + a.size)
  | _ :: _ :: _, _, _ => false
def fit (P : Program) : Nat → Sh → TypeId → Bool
  | 0, _, _ => false
  | n + 1, s, t => match P.underlying t with
    | some (.int k) => match s with
      | int k' => decide (k = k')
      | _ => false
    | some .bool => match s with
      | bool => true
      | _ => false
    | some .string => match s with
      | str => true
      | _ => false
    | some (.slice e) => match s with
      | slice s' => P.cellsOf e == s'.size && fit P n s' e
      | _ => false
    | some (.struct fs) => P.cellsOf t == s.size && fitL (fit P n) P.cellsOf fs.toList s 0
    | _ => false
section
variable {H : Type} {enc : TypeId × Value → H} {P : Program} {w : World} {spare : Nat → Bool} {held : Bool}
theorem part_of (cs : List Value) (o k m : Nat) : ((cs.drop o).take (k + m)).take k = (cs.drop o).take k ∧ ((cs.drop o).take (k + m)).drop k = (cs.drop (o + k)).take m := by
  refine ⟨by rw [List.take_take, Nat.min_eq_left (by omega)], ?_⟩
  rw [List.drop_take, List.drop_drop, Nat.add_sub_cancel_left]
theorem fit_row {n : Nat} {g : Sh → TypeId → Bool} (hg : ∀ (s : Sh) (t : TypeId), g s t = true → ∀ (m : Nat) (cs : List Value) (y : DataW H × List MemPlace), DataW.trod enc P w 0 spare held m t cs = some y → ∃ x : s.Den, cs = s.cells x ∧ Ok w s x) (cs : List Value) :
    ∀ (fs : List Field) (s : Sh) (o : Nat), fitL g P.cellsOf fs s o = true → (∀ f ∈ fs, ∃ y, DataW.trod enc P w 0 spare held n f.type ((cs.drop f.offset).take (P.cellsOf f.type)) = some y) → ∃ x : s.Den, (cs.drop o).take s.size = s.cells x ∧ Ok w s x
  | [], _, _, h, _ => by simp [fitL] at h
  | [f], s, o, h, hf => by
    simp only [fitL, Bool.and_eq_true, beq_iff_eq] at h
    obtain ⟨⟨h1, h2⟩, h3⟩ := h
    obtain ⟨y, hy⟩ := hf f (by simp)
    rw [h1, h2] at hy
    exact hg s f.type h3 n _ y hy
  | f :: f' :: r, pair a b, o, h, hf => by
    simp only [fitL, Bool.and_eq_true, beq_iff_eq] at h
    obtain ⟨⟨⟨h1, h2⟩, h3⟩, h4⟩ := h
    obtain ⟨y, hy⟩ := hf f (by simp)
    rw [h1, h2] at hy
    obtain ⟨xa, ea, oa⟩ := hg a f.type h3 n _ y hy
    obtain ⟨xb, eb, ob⟩ := fit_row hg cs (f' :: r) b (o + a.size) h4 (fun f hf' => hf f (List.mem_cons_of_mem _ hf'))
    obtain ⟨p1, p2⟩ := part_of cs o a.size b.size
    refine ⟨(xa, xb), ?_, oa, ob⟩
    show (cs.drop o).take (a.size + b.size) = a.cells xa ++ b.cells xb
    rw [← ea, ← eb, ← List.take_append_drop a.size ((cs.drop o).take (a.size + b.size)), p1, p2]
  | _ :: _ :: _, int _, _, h, _ => by simp [fitL] at h
  | _ :: _ :: _, bool, _, h, _ => by simp [fitL] at h
  | _ :: _ :: _, str, _, h, _ => by simp [fitL] at h
  | _ :: _ :: _, slice _, _, h, _ => by simp [fitL] at h
theorem choose_list {α : Type} {Q : Nat → α → Prop} : ∀ n : Nat, (∀ i, i < n → ∃ x, Q i x) → ∃ l : List α, l.length = n ∧ ∀ i x, l[i]? = some x → Q i x
  | 0, _ => ⟨[], rfl, by simp⟩
  | n + 1, h => by
    obtain ⟨l, hl, hq⟩ := choose_list n (fun i hi => h i (by omega))
    obtain ⟨x, hx⟩ := h n (by omega)
    refine ⟨l ++ [x], by simp [hl], fun i y hy => ?_⟩
    by_cases hi : i < n
    · rw [List.getElem?_append_left (by omega)] at hy
      exact hq i y hy
    · have : i = n := by
        have := (List.getElem?_eq_some_iff.1 hy).1
        simp [hl] at this
        omega
      subst this
      rw [List.getElem?_append_right (by omega), hl, Nat.sub_self] at hy
      obtain rfl : x = y := by simpa using hy
      exact hx
theorem open_sh : ∀ (n : Nat) (s : Sh) (t : TypeId), fit P n s t = true → ∀ (m : Nat) (cs : List Value) (y : DataW H × List MemPlace), DataW.trod enc P w 0 spare held m t cs = some y → ∃ x : s.Den, cs = s.cells x ∧ Ok w s x
  | 0, s, t, h, _, _, _, _ => by simp [fit] at h
  | n + 1, s, t, h, m, cs, y, hy => by
    unfold fit at h
    split at h
    · next k hk =>
      split at h
      · next k' =>
        obtain rfl : k = k' := of_decide_eq_true h
        obtain ⟨u, hu, _, hw⟩ := DataW.trod_int hk hy
        exact ⟨u, hu, hw⟩
      · simp at h
    · next hk =>
      split at h
      · obtain ⟨u, hu, _⟩ := DataW.trod_bool hk hy
        exact ⟨u, hu, trivial⟩
      · simp at h
    · next hk =>
      split at h
      · obtain ⟨u, hu, _, hw⟩ := DataW.trod_string hk hy
        exact ⟨u, hu, hw⟩
      · simp at h
    · next e hk =>
      split at h
      · next s' =>
        simp only [Bool.and_eq_true, beq_iff_eq] at h
        obtain ⟨h1, h2⟩ := h
        rcases Go.Deep.open_slice hk hy with ⟨hcs, _⟩ | ⟨a, len, cap, mm, n', D, Pl, hcs, _, hl, hm, hmm, _, hi⟩
        · exact ⟨(⟨none, 0, 0, []⟩ : SlX s'.Den), hcs, RdX.nil, Nat.le_refl _, Nat.zero_le _, by simp⟩
        · have hle : len ≤ mm := by rw [hmm]; split <;> omega
          obtain ⟨l, hll, hq⟩ := choose_list (Q := fun i (x : s'.Den) => w.cells? 0 (a.add (i * s'.size)) s'.size = some (s'.cells x) ∧ Ok w s' x) len (fun i hi2 => by
            obtain ⟨es, hc, ht⟩ := hi i (by omega)
            rw [h1] at hc
            obtain ⟨x, hx, ho⟩ := open_sh n s' e h2 n' es _ ht
            exact ⟨x, by rw [← hx]; exact hc, ho⟩)
          refine ⟨(⟨some a, len, cap, l⟩ : SlX s'.Den), hcs, ⟨hll, fun hp => ?_⟩, hl, hm, fun x hx => ?_⟩
          · have hp : 0 < len := hp
            obtain ⟨x0, hx0⟩ : ∃ x0, l[0]? = some x0 := ⟨_, List.getElem?_eq_getElem (by omega)⟩
            have hsz : ∀ (s : Sh), 0 < s.size := fun s => by
              induction s with
              | int _ => simp [size]
              | bool => simp [size]
              | str => simp [size]
              | slice _ => simp [size]
              | pair a b iha _ => simp only [size]; omega
            have cell_at : ∀ k x j u, l[k]? = some x → (s'.cells x)[j]? = some u → w.cell? ((a.add (k * s'.size)).add j) = some u := fun k x j u hk' hu => by
              obtain ⟨_, hlen, hat⟩ := World.cells?_some (hq k x hk').1
              have hj : j < s'.size := by
                have := (List.getElem?_eq_some_iff.1 hu).1
                rwa [cells_len] at this
              rw [hat j hj, hu]
            obtain ⟨u0, hu0⟩ : ∃ u0, (s'.cells x0)[0]? = some u0 := ⟨_, List.getElem?_eq_getElem (by rw [cells_len]; exact hsz s')⟩
            have c0 := cell_at 0 x0 0 u0 hx0 hu0
            obtain ⟨b, off, spot⟩ := a
            have hspot : spot = none := by simpa [Addr.add] using World.cell?_spot c0
            subst hspot
            refine ⟨b, off, rfl, ?_, fun k x j u hk' hu => ?_⟩
            · have : (w.cell? ⟨b, off, none⟩).isSome = true := by
                have e : ((⟨b, off, none⟩ : Addr).add (0 * s'.size)).add 0 = ⟨b, off, none⟩ := by simp [Addr.add]
                rw [e] at c0
                rw [c0]; rfl
              unfold World.cell? at this
              by_cases hb : b < w.heap.size
              · exact hb
              · rw [Array.getElem?_eq_none (show w.heap.size ≤ b by omega)] at this
                simp at this
            · have := cell_at k x j u hk' hu
              rw [Addr.add_lit, Addr.add_lit] at this
              exact this
          · obtain ⟨i, hi2, e⟩ := List.getElem_of_mem hx
            exact (hq i x (by rw [List.getElem?_eq_getElem hi2, e])).2
      · simp at h
    · next fs hk =>
      simp only [Bool.and_eq_true, beq_iff_eq] at h
      obtain ⟨h1, h2⟩ := h
      obtain ⟨xs, n', _, _, hlen, hxl, hf⟩ := DataW.trod_struct hk hy
      obtain ⟨x, hx, ho⟩ := fit_row (n := n') (fun s t hs => open_sh n s t hs) cs fs.toList s 0 h2 (fun f hf' => by
        obtain ⟨i, hi, e⟩ := List.getElem_of_mem hf'
        have hi2 : i < fs.size := by simpa using hi
        have e2 : fs[i]? = some f := by
          rw [Array.getElem?_eq_getElem hi2, ← e]; simp
        exact ⟨xs[i]'(by omega), (hf i f e2).trans (List.getElem?_eq_getElem (by omega))⟩)
      refine ⟨x, ?_, ho⟩
      rw [← hx, List.drop_zero, List.take_of_length_le (by omega)]
    · simp at h
open Go.Joins Go.WideShapes in
/-- a struct, by value -/
theorem open_struct {r : Reach} {b0 : Nat} {t : TypeId} {fs : Array Field} {v : Value} {d : DataW H} {p : List MemPlace} (n : Nat) (s : Sh) (hs : P.underlying t = some (.struct fs)) (hfit : fit P n s t = true)
    (hv : Value.okWide P w r b0 t v) (h : DataW.Trod enc P w 0 spare held t v d p) : ∃ x : s.Den, v = .agg ⟨s.cells x⟩ ∧ Ok w s x := by
  obtain ⟨cs, rfl, _⟩ := okWide_struct hs hv
  obtain ⟨l⟩ := cs
  obtain ⟨m, hm⟩ := h
  obtain ⟨x, hx, ho⟩ := open_sh n s t hfit m _ _ hm
  exact ⟨x, by rw [← hx]; rfl, ho⟩
open Go.WideShapes in
theorem open_slX {r : Reach} {b0 : Nat} {t e : TypeId} {v : Value} {d : DataW H} {p : List MemPlace} (n : Nat) (s : Sh) (hs : P.underlying t = some (.slice e)) (hfit : fit P n (.slice s) t = true)
    (hv : Value.okWide P w r b0 t v) (h : DataW.Trod enc P w 0 spare held t v d p) : ∃ x : SlX s.Den, v = .slice x.a x.n x.c ∧ RdX s.cells s.size w x.a x.n x.l ∧ x.n ≤ x.c ∧ x.c ≤ maxLen ∧ ∀ y ∈ x.l, Ok w s y := by
  obtain ⟨a, len, cap, rfl⟩ := okWide_slice hs hv
  obtain ⟨m, hm⟩ := h
  obtain ⟨x, hx, ho⟩ := open_sh n (.slice s) t hfit m _ _ hm
  refine ⟨x, ?_, ho⟩
  have : [Value.slice a len cap] = [Value.slice x.a x.n x.c] := hx
  simpa using this
end
end Sh
end Go.Proofs.YtiflieaemgamkaaGreatDoor
