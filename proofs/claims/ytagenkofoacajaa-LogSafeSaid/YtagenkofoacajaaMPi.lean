/- A map from integers to nothing, as a set of integers. Condition: integers that fit. -/
import Derived.Test.YtagenkofoacajaaZb
import Derived.Maps.Own
import Derived.Maps.Views
import Derived.Maps.Keyed
namespace Go.Proofs.Ytagenkofoacajaa
open Go.RowKit Vi Go.WideMaps Go.Maps

def emI (v : Value) : Option (DataW Nat × List MemPlace) := match v with
  | .agg a => if a.size = 0 then some (.nil, []) else none
  | _ => none
theorem emI_inv {v : Value} {z : DataW Nat × List MemPlace} (h : emI v = some z) : v = .agg #[] := by
  unfold emI at h
  split at h
  · next a =>
    split at h
    · next h0 => rw [Array.size_eq_zero_iff.1 h0]
    · cases h
  · cases h
/-- a set of texts -/
def SetI (w : World) (B : Nat) (ks : List Int) : Prop := ∃ n D, w.ownsMap Try.prog 3 emI B n D ∧ n ≤ ks.length ∧ IsMap D ∧ ∀ s : Int, (Lit.int .i64 s).wf = true → has D (.int .i64 s) = ks.any fun x => x == s
theorem SetI.made (w : World) : SetI (w.alloc (.map #[] 0)) w.heap.size [] :=
  ⟨0, .map [], World.ownsMap_made w _ _ _, Nat.le_refl _, isMap_empty, fun _ _ => rfl⟩
theorem SetI.kept {w w' : World} {B : Nat} {ks : List Int} (h : SetI w B ks) (hb : w'.heap[B]? = w.heap[B]?) : SetI w' B ks := by
  obtain ⟨n, D, ⟨es, cl, h1, h2⟩, h3⟩ := h
  exact ⟨n, D, ⟨es, cl, hb.trans h1, h2⟩, h3⟩
theorem SetI.lt {w : World} {B : Nat} {ks : List Int} (h : SetI w B ks) : B < w.heap.size := by
  obtain ⟨n, D, h1, _⟩ := h
  exact h1.lt
theorem SetI.put {w : World} {B : Nat} {ks : List Int} (h : SetI w B ks) (x : Int) (hx : (Lit.int .i64 x).wf = true) (hk : ks.length < maxLen) :
    ∃ w', (Instr.mapUpdate 77 (.map (some B)) (.int .i64 x) (.agg #[])).run Try.prog w = .ok () w' ∧ SetI w' B (ks ++ [x]) ∧ w.grownBy w' (some B) := by
  obtain ⟨n, D, h1, h2, h3, h4⟩ := h
  obtain ⟨w', hrun, hown, hg⟩ := h1.update (Maps.int_keyed Try.underlying3) Try.underlying77 (by omega) (key := .int .i64 x) (val := .agg #[]) (Maps.keyOf_int_mk Try.underlying3 hx) (d := .nil) (ps := []) rfl
  refine ⟨w', hrun, ⟨n + 1, _, hown, by rw [List.length_append]; simp; omega, h3.put _ _, fun s hs => ?_⟩, hg⟩
  rw [List.any_append]
  by_cases e : x = s
  · subst e
    rw [has_put_same (k := .int .i64 x) h3 trivial]
    simp
  · have hne : (Lit.int .i64 s) ≠ .int .i64 x := by
      intro q
      injection q with _ q
      exact e q.symm
    rw [has_put_other hne, h4 s hs]
    have hf : (x == s) = false := by rw [beq_eq_false_iff_ne]; exact e
    simp [hf]
theorem zero_unitI (w : World) : (zeroValue 78).run Try.prog w = .ok (.agg #[]) w := by
  simp [go_sem]
theorem SetI.look {w : World} {B : Nat} {ks : List Int} (h : SetI w B ks) (s : Int) (hs : (Lit.int .i64 s).wf = true) :
    (Instr.lookup 77 (.map (some B)) (.int .i64 s) true).run Try.prog w = .ok (.tuple #[.agg #[], .bool (ks.any fun x => x == s)]) w := by
  obtain ⟨n, D, ⟨es, cl, h1, F, _, hD⟩, h2, h3, h4⟩ := h
  have h5 := h4 s hs
  rcases Maps.fit_look true (Maps.int_keyed Try.underlying3) Try.underlying77 (zero_unitI w) h1 F (Maps.keyOf_int_mk Try.underlying3 hs) with ⟨hrun, _, hat⟩ | ⟨e0, y, _, _, hrun, hR, hat, _⟩
  · rw [← hD] at hat
    rw [has_false_of_atKey hat] at h5
    rw [hrun, ← h5]; rfl
  · rw [← hD] at hat
    rw [has_true_of_atKey hat] at h5
    rw [hrun, ← h5, emI_inv hR]; rfl
end Go.Proofs.Ytagenkofoacajaa
