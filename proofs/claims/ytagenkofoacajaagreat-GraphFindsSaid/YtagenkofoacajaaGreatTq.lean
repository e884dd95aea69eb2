/- A law on regions that draw their order: a head of quiet operations and of calls that make memory (in whatever order), and a tail whose operations come one behind the other. No condition. -/
import Derived.Test.YtagenkofoacajaaGreatProg
import Derived.StillTail
import Derived.Lib.QuietBelow
import Derived.BigQuiet
namespace Go.Proofs.YtagenkofoacajaaGreat
open Go.RowKit

section
variable {P : Program} {ops : Array Oper} {md : Region.Mode} {C : World → Prop}
/-- f operations of the head come up, whichever the tape picks -/
def qHead (P : Program) (md : Region.Mode) (ops : Array Oper) (C : World → Prop) (n : Nat) (L : Array Bool → Act → Prop) : Nat → Array Bool → Act → Prop
  | 0, s, a => L s a
  | f + 1, s, a => Region.ready md ops s ≠ [] ∧ ∀ i ∈ Region.ready md ops s, i < n ∧ qOp P ops C i (qHead P md ops C n L f (s.setIfInBounds i true)) a
theorem qHead_run {n g : Nat} {L : Array Bool → Act → Prop} {Q : Exit → Act → World → Prop} (hL : ∀ s a W, C W → L s a → wpAny P md ops Q g s a W) (f : Nat) :
    ∀ (s : Array Bool) (a : Act) (W : World), C W → qHead P md ops C n L f s a → wpAny P md ops Q (f + g) s a W := by
  induction f with
  | zero => intro s a W hW h; rw [Nat.zero_add]; exact hL s a W hW h
  | succ f ih =>
    intro s a W hW h
    rw [Nat.add_right_comm f 1 g]
    refine ⟨fun e => absurd e h.1, fun i hi => ?_⟩
    exact wpOp_of_qOp hW (fun a' W' hW' k => ih _ a' W' hW' k) (h.2 i hi).2
/-- an operation of the head that may come up now may as well come first -/
theorem qHead_take {n i : Nat} {x : Oper} {v : Value} {L : Array Bool → Act → Prop} (hx : ops[i]? = some x) (hns : Region.noSelect ops = true)
    (hs : Region.sinkB md ops n = true) (hc : Region.chainB md ops n = true) (hn : n < ops.size) (hin : i < n)
    (hend : ∀ s a, L s a → ∀ j ∈ Region.ready md ops s, n ≤ j) (f : Nat) :
    ∀ (s : Array Bool) (a : Act), HeadInv md ops n s →
      (∀ j y, ops[j]? = some y → j ≠ i → s.getD j true = false → (∀ e ∈ y.after, Region.binds md e = true → e.on ≠ i) → x.apart ops y = true) →
      i ∈ Region.ready md ops s → YieldsIn P ops C x v a → qHead P md ops C n L f (s.setIfInBounds i true) (a.put x.dst v) → qHead P md ops C n L (f + 1) s a := by
  have sel := fun (j : Nat) (y : Oper) cs b => Region.noSelect_spec hns j y cs b
  have low : ∀ s : Array Bool, HeadInv md ops n s → i ∈ Region.ready md ops s → ∀ j ∈ Region.ready md ops s, j < n := by
    intro s inv hr j hj
    by_cases h : j < n
    · exact h
    · exact absurd hj (tail_waits hs hc hn inv _ i rfl hin (mem_ready.1 hr).1 j (by omega))
  have some_ready : ∀ s : Array Bool, i ∈ Region.ready md ops s → Region.ready md ops s ≠ [] := fun s hr e => by rw [e] at hr; cases hr
  induction f with
  | zero =>
    intro s a inv _ hr hy H
    refine ⟨some_ready s hr, fun j hj => ⟨low s inv hr j hj, ?_⟩⟩
    by_cases e : j = i
    · subst e; exact hy.qOp hx H
    · have h1 := hend _ _ H j (ready_mono hj e)
      have h2 := low s inv hr j hj
      omega
  | succ f ih =>
    intro s a inv hfree hr hy H
    refine ⟨some_ready s hr, fun j hj => ⟨low s inv hr j hj, ?_⟩⟩
    by_cases e : j = i
    · subst e; exact hy.qOp hx H
    · obtain ⟨hjs, y, hyj, hall⟩ := mem_ready.1 hj
      have away : ∀ e' ∈ y.after, Region.binds md e' = true → e'.on ≠ i := fun e' he' hb heq => by
        have := hall e' he' hb
        rw [heq, getD_both (mem_ready.1 hr).1] at this
        cases this
      have k1 := qOp_put hyj (hfree j y hyj e hjs away) (fun cs b => sel i x cs b hx) (fun cs b => sel j y cs b hyj) hy (H.2 j (ready_mono hj e)).2
      refine qOp_mono (fun a' k2 => ?_) k1
      refine ih (s.setIfInBounds j true) a' (inv.set hj (low s inv hr j hj)) ?_ (ready_mono hr (fun q => e q.symm)) k2.1 (by rw [Array.setIfInBounds_comm _ _ e]; exact k2.2)
      intro k z hz hki hks haw
      by_cases q : j = k
      · subst q; exact hfree j z hz hki hjs haw
      · exact hfree k z hz hki (by rw [getD_set_ne true q] at hks; exact hks) haw
theorem qHead_lex {n g : Nat} {Lq : Act → Prop} (hns : Region.noSelect ops = true) (hs : Region.sinkB md ops n = true) (hc : Region.chainB md ops n = true) (hn : n < ops.size) (l : List Oper) :
    ∀ (k : Nat) (s : Array Bool) (a : Act), (∀ j, j < l.length → l[j]? = ops[k + j]?) → k + l.length = n → HeadInv md ops n s →
    Region.lexHead md ops g l.length k s = true → wpQuiet P ops C Lq l a → qHead P md ops C n (fun s' a' => Region.seqB md ops g n s' = true ∧ Lq a') l.length s a := by
  induction l with
  | nil =>
    intro k s a _ hk _ hB h
    obtain rfl : k = n := by simpa using hk
    exact ⟨by simpa [Region.lexHead] using hB, h⟩
  | cons x l ih =>
    intro k s a hl hk inv hB h
    have h0 : ops[k]? = some x := by simpa using (hl 0 (by simp)).symm
    simp only [List.length_cons, Region.lexHead, Bool.and_eq_true] at hB
    have hkn : k < n := by simp only [List.length_cons] at hk; omega
    have hr : k ∈ Region.ready md ops s := by simpa using hB.1.1
    obtain ⟨v, hy, hK⟩ := yieldsIn_of_qOp (K := wpQuiet P ops C Lq l) h0 (by unfold qOp; simp only [h0]; exact h)
    refine qHead_take h0 hns hs hc hn hkn (fun s' a' hL => seqB_ready hL.1) l.length s a inv (Region.free_spec h0 hB.1.2) hr hy ?_
    exact ih (k + 1) _ _ (fun j hj => by have := hl (j + 1) (by simp; omega); simpa [Nat.add_assoc, Nat.add_comm 1 j] using this) (by simp only [List.length_cons] at hk; omega) (inv.set hr hkn) hB.2 hK
end
open Go.Sort in
/-- the head by one walk in the order of the text; the tail behind it, in every world that the head may leave -/
theorem wp_region_quiet_tail {P : Program} {id : Nat} {Q : Exit → Act → World → Prop} {a : Act} {w : World} {l : List Oper} (n : Nat) (hm : P.follows .mixedOrders = true) (hB : Region.lexTailB .any l.toArray n = true)
    (h : wpQuiet P l.toArray (fun w' => ∃ p : Regrown, w' = grow (redrawn w p.d) p.os) (fun a' => ∀ w', (∃ p : Regrown, w' = grow (redrawn w p.d) p.os) → wpList P l.toArray Q (l.drop n) a' w') (l.take n) a) : (Code.region id l.toArray true).wp P Q a w := by
  simp only [Region.lexTailB, Bool.and_eq_true, decide_eq_true_eq] at hB
  obtain ⟨⟨⟨⟨hns, hn⟩, hs⟩, hc⟩, hlex⟩ := hB
  have hsz : l.toArray.size = l.length := by simp
  have htl : (l.take n).length = n := by rw [List.length_take]; omega
  have hdl : (l.drop n).length = l.toArray.size - n := by rw [List.length_drop, hsz]
  have inv0 : HeadInv .any l.toArray n (Array.replicate l.toArray.size false) :=
    ⟨by simp, fun j y _ hl => (by rw [getD_replicate_false] at hl; cases hl), fun t _ ht => getD_in (by simpa using ht) (getD_replicate_false _ _)⟩
  have H := qHead_lex (md := .any) (g := l.toArray.size - n) hns hs hc hn (l.take n) 0 _ a
    (fun j hj => by rw [htl] at hj; rw [Nat.zero_add, List.getElem?_take_of_lt hj]; simp) (by rw [htl, Nat.zero_add]) inv0 (by rw [htl]; exact hlex) h
  refine wp_region_any hm ?_
  have R := qHead_run (Q := Q) (g := l.toArray.size - n) (fun s a' W hW hL => by
    have k := wpAny_of_seq (md := .any) (Q' := Q) (l.drop n) n s a' W (fun j => by simp [List.getElem?_drop]) (by rw [hdl]; exact hL.1) (hL.2 W hW)
    rwa [hdl] at k) _ _ _ { w with drawn := w.drawn + 1 } ⟨⟨w.drawn + 1, #[]⟩, by rw [grow_empty]; rfl⟩ H
  rw [htl, show n + (l.toArray.size - n) = l.toArray.size by omega] at R
  exact R
end Go.Proofs.YtagenkofoacajaaGreat
