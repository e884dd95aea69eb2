/- Shapes of plain data that came in, with a bound on each text: what the reach of a statement says of sizes. -/
import Derived.Test.YtiagbadnmkeokaaSh
import Derived.SizedLaws
namespace Go.Proofs.Ytiagbadnmkeokaa
open Go.RowKit

namespace Sh
/-- each text is at most so long -/
def Oz (R : Nat) : (s : Sh) → s.Den → Prop
  | int _, _ => True
  | bool, _ => True
  | str, s => s.size ≤ R
  | slice s, x => ∀ y ∈ x.l, Oz R s y
  | pair a b, x => Oz R a x.1 ∧ Oz R b x.2
section
variable {H : Type} {enc : TypeId × Value → H} {P : Program} {w : World} {spare : Nat → Bool} {held : Bool} {R : Nat}
theorem weights_all {e : TypeId} : ∀ {l : List (DataW H)} {d : DataW H}, d ∈ l → ∀ n ∈ d.weights P e, n ∈ DataW.weightsAll P e l
  | d0 :: r, d, hd, n, hn => by
    simp only [DataW.weightsAll, List.mem_append]
    rcases List.mem_cons.1 hd with rfl | hd
    · exact .inl hn
    · exact .inr (weights_all hd n hn)
  | [], _, hd, _, _ => by cases hd
theorem fit_rowz {n : Nat} {g : Sh → TypeId → Bool} (hg : ∀ (s : Sh) (t : TypeId), g s t = true → ∀ (m : Nat) (cs : List Value) (y : DataW H × List MemPlace), DataW.trod enc P w 0 spare held m t cs = some y → (∀ k ∈ y.1.weights P t, k ≤ R) → ∃ x : s.Den, cs = s.cells x ∧ Ok w s x ∧ Oz R s x) (cs : List Value) :
    ∀ (fs : List Field) (s : Sh) (o : Nat), fitL g P.cellsOf fs s o = true → (∀ f ∈ fs, ∃ y, DataW.trod enc P w 0 spare held n f.type ((cs.drop f.offset).take (P.cellsOf f.type)) = some y ∧ ∀ k ∈ y.1.weights P f.type, k ≤ R) → ∃ x : s.Den, (cs.drop o).take s.size = s.cells x ∧ Ok w s x ∧ Oz R s x
  | [], _, _, h, _ => by simp [fitL] at h
  | [f], s, o, h, hf => by
    simp only [fitL, Bool.and_eq_true, beq_iff_eq] at h
    obtain ⟨⟨h1, h2⟩, h3⟩ := h
    obtain ⟨y, hy, hz⟩ := hf f (by simp)
    rw [h1, h2] at hy
    exact hg s f.type h3 n _ y hy hz
  | f :: f' :: r, pair a b, o, h, hf => by
    simp only [fitL, Bool.and_eq_true, beq_iff_eq] at h
    obtain ⟨⟨⟨h1, h2⟩, h3⟩, h4⟩ := h
    obtain ⟨y, hy, hz⟩ := hf f (by simp)
    rw [h1, h2] at hy
    obtain ⟨xa, ea, oa, za⟩ := hg a f.type h3 n _ y hy hz
    obtain ⟨xb, eb, ob, zb⟩ := fit_rowz hg cs (f' :: r) b (o + a.size) h4 (fun f hf' => hf f (List.mem_cons_of_mem _ hf'))
    obtain ⟨p1, p2⟩ := part_of cs o a.size b.size
    refine ⟨(xa, xb), ?_, ⟨oa, ob⟩, ⟨za, zb⟩⟩
    show (cs.drop o).take (a.size + b.size) = a.cells xa ++ b.cells xb
    rw [← ea, ← eb, ← List.take_append_drop a.size ((cs.drop o).take (a.size + b.size)), p1, p2]
  | _ :: _ :: _, int _, _, h, _ => by simp [fitL] at h
  | _ :: _ :: _, bool, _, h, _ => by simp [fitL] at h
  | _ :: _ :: _, str, _, h, _ => by simp [fitL] at h
  | _ :: _ :: _, slice _, _, h, _ => by simp [fitL] at h
theorem open_shz : ∀ (n : Nat) (s : Sh) (t : TypeId), fit P n s t = true → ∀ (m : Nat) (cs : List Value) (y : DataW H × List MemPlace), DataW.trod enc P w 0 spare held m t cs = some y → (∀ k ∈ y.1.weights P t, k ≤ R) → ∃ x : s.Den, cs = s.cells x ∧ Ok w s x ∧ Oz R s x
  | 0, s, t, h, _, _, _, _, _ => by simp [fit] at h
  | n + 1, s, t, h, m, cs, y, hy, hz => by
    unfold fit at h
    split at h
    · next k hk =>
      split at h
      · next k' =>
        obtain rfl : k = k' := of_decide_eq_true h
        obtain ⟨u, hu, _, hw⟩ := DataW.trod_int hk hy
        exact ⟨u, hu, hw, trivial⟩
      · simp at h
    · next hk =>
      split at h
      · obtain ⟨u, hu, _⟩ := DataW.trod_bool hk hy
        exact ⟨u, hu, trivial, trivial⟩
      · simp at h
    · next hk =>
      split at h
      · obtain ⟨u, hu, hx, hw⟩ := DataW.trod_string hk hy
        refine ⟨u, hu, hw, ?_⟩
        have := hz u.data.toList.length (by rw [hx]; simp [DataW.weights])
        show u.size ≤ R
        simpa using this
      · simp at h
    · next e hk =>
      split at h
      · next s' =>
        simp only [Bool.and_eq_true, beq_iff_eq] at h
        obtain ⟨h1, h2⟩ := h
        rcases Go.Deep.open_slice hk hy with ⟨hcs, _⟩ | ⟨a, len, cap, mm, n', D, Pl, hcs, _, hl, hm, hmm, hx, hi⟩
        · exact ⟨(⟨none, 0, 0, []⟩ : SlX s'.Den), hcs, ⟨RdX.nil, Nat.le_refl _, Nat.zero_le _, by simp⟩, by intro y hy; cases hy⟩
        · have hle : len ≤ mm := by rw [hmm]; split <;> omega
          have hzD : ∀ i, i < len → ∀ k ∈ (D i).weights P e, k ≤ R := fun i hi2 k hk2 => hz k (by
            rw [hx]
            simp only [DataW.weights, hk]
            exact List.mem_cons_of_mem _ (List.mem_append_left _ (weights_all (List.mem_map.2 ⟨i, List.mem_range.2 hi2, rfl⟩) k hk2)))
          obtain ⟨l, hll, hq⟩ := choose_list (Q := fun i (x : s'.Den) => w.cells? 0 (a.add (i * s'.size)) s'.size = some (s'.cells x) ∧ Ok w s' x ∧ Oz R s' x) len (fun i hi2 => by
            obtain ⟨es, hc, ht⟩ := hi i (by omega)
            rw [h1] at hc
            obtain ⟨x, hx, ho, hoz⟩ := open_shz n s' e h2 n' es _ ht (hzD i hi2)
            exact ⟨x, by rw [← hx]; exact hc, ho, hoz⟩)
          refine ⟨(⟨some a, len, cap, l⟩ : SlX s'.Den), hcs, ⟨⟨hll, fun hp => ?_⟩, hl, hm, fun x hx => ?_⟩, fun x hx => ?_⟩
          · have hp : 0 < len := hp
            obtain ⟨x0, hx0⟩ : ∃ x0, l[0]? = some x0 := ⟨_, List.getElem?_eq_getElem (by omega)⟩
            have hsz : ∀ (s : Sh), 0 < s.size := fun s => by
              induction s with
              | int _ => simp [size]
              | bool => simp [size]
              | str => simp [size]
              | slice _ => simp [size]
              | pair a b iha _ => simp only [size]; omega
            have cell_at : ∀ k x j u, l[k]? = some x → (s'.cells x)[j]? = some u → w.cell? ((a.add (k * s'.size)).add j) = some u := fun k x j u hk' hu => by
              obtain ⟨_, hlen, hat⟩ := World.cells?_some (hq k x hk').1
              have hj : j < s'.size := by
                have := (List.getElem?_eq_some_iff.1 hu).1
                rwa [cells_len] at this
              rw [hat j hj, hu]
            obtain ⟨u0, hu0⟩ : ∃ u0, (s'.cells x0)[0]? = some u0 := ⟨_, List.getElem?_eq_getElem (by rw [cells_len]; exact hsz s')⟩
            have c0 := cell_at 0 x0 0 u0 hx0 hu0
            obtain ⟨b, off, spot⟩ := a
            have hspot : spot = none := by simpa [Addr.add] using World.cell?_spot c0
            subst hspot
            refine ⟨b, off, rfl, ?_, fun k x j u hk' hu => ?_⟩
            · have : (w.cell? ⟨b, off, none⟩).isSome = true := by
                have e : ((⟨b, off, none⟩ : Addr).add (0 * s'.size)).add 0 = ⟨b, off, none⟩ := by simp [Addr.add]
                rw [e] at c0
                rw [c0]; rfl
              unfold World.cell? at this
              by_cases hb : b < w.heap.size
              · exact hb
              · rw [Array.getElem?_eq_none (show w.heap.size ≤ b by omega)] at this
                simp at this
            · have := cell_at k x j u hk' hu
              rw [Addr.add_lit, Addr.add_lit] at this
              exact this
          · obtain ⟨i, hi2, e⟩ := List.getElem_of_mem hx
            exact (hq i x (by rw [List.getElem?_eq_getElem hi2, e])).2.1
          · obtain ⟨i, hi2, e⟩ := List.getElem_of_mem hx
            exact (hq i x (by rw [List.getElem?_eq_getElem hi2, e])).2.2
      · simp at h
    · next fs hk =>
      simp only [Bool.and_eq_true, beq_iff_eq] at h
      obtain ⟨h1, h2⟩ := h
      obtain ⟨xs, n', _, hxx, hlen, hxl, hf⟩ := DataW.trod_struct hk hy
      obtain ⟨x, hx, ho, hoz⟩ := fit_rowz (n := n') (fun s t hs => open_shz n s t hs) cs fs.toList s 0 h2 (fun f hf' => by
        obtain ⟨i, hi, e⟩ := List.getElem_of_mem hf'
        have hi2 : i < fs.size := by simpa using hi
        have e2 : fs[i]? = some f := by
          rw [Array.getElem?_eq_getElem hi2, ← e]; simp
        refine ⟨xs[i]'(by omega), (hf i f e2).trans (List.getElem?_eq_getElem (by omega)), fun k hk2 => hz k ?_⟩
        rw [hxx]
        simp only [DataW.weights, hk]
        exact DataW.weights_mem_each (j := i) (t := f.type) (by rw [List.getElem?_map, Array.getElem?_toList, e2]; rfl) (by rw [List.getElem?_map, List.getElem?_eq_getElem (by omega)]; rfl) k hk2)
      refine ⟨x, ?_, ho, hoz⟩
      rw [← hx, List.drop_zero, List.take_of_length_le (by omega)]
    · simp at h
open Go.Joins Go.WideShapes in
/-- a struct, by value -/
theorem open_structz {r : Reach} {b0 : Nat} {t : TypeId} {fs : Array Field} {v : Value} {d : DataW H} {p : List MemPlace} (n : Nat) (s : Sh) (hs : P.underlying t = some (.struct fs)) (hfit : fit P n s t = true)
    (hv : Value.okWide P w r b0 t v) (h : DataW.Trod enc P w 0 spare held t v d p) (hz : ∀ k ∈ d.weights P t, k ≤ R) : ∃ x : s.Den, v = .agg ⟨s.cells x⟩ ∧ Ok w s x ∧ Oz R s x := by
  obtain ⟨cs, rfl, _⟩ := okWide_struct hs hv
  obtain ⟨l⟩ := cs
  obtain ⟨m, hm⟩ := h
  obtain ⟨x, hx, ho, hoz⟩ := open_shz n s t hfit m _ _ hm hz
  exact ⟨x, by rw [← hx]; rfl, ho, hoz⟩
open Go.WideShapes in
theorem open_slXz {r : Reach} {b0 : Nat} {t e : TypeId} {v : Value} {d : DataW H} {p : List MemPlace} (n : Nat) (s : Sh) (hs : P.underlying t = some (.slice e)) (hfit : fit P n (.slice s) t = true)
    (hv : Value.okWide P w r b0 t v) (h : DataW.Trod enc P w 0 spare held t v d p) (hz : ∀ k ∈ d.weights P t, k ≤ R) : ∃ x : SlX s.Den, v = .slice x.a x.n x.c ∧ (RdX s.cells s.size w x.a x.n x.l ∧ x.n ≤ x.c ∧ x.c ≤ maxLen ∧ ∀ y ∈ x.l, Ok w s y) ∧ ∀ y ∈ x.l, Oz R s y := by
  obtain ⟨a, len, cap, rfl⟩ := okWide_slice hs hv
  obtain ⟨m, hm⟩ := h
  obtain ⟨x, hx, ho, hoz⟩ := open_shz n (.slice s) t hfit m _ _ hm hz
  refine ⟨x, ?_, ho, hoz⟩
  have : [Value.slice a len cap] = [Value.slice x.a x.n x.c] := hx
  simpa using this
end
end Sh
end Go.Proofs.Ytiagbadnmkeokaa
