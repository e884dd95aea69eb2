/- A map from integers to nothing, as a set of integers. Condition: integers that fit. -/
import Derived.Test.YtagenkofoacajaaDoorZb
import Derived.Maps.Own
import Derived.Maps.Views
import Derived.Maps.Keyed
namespace Go.Proofs.YtagenkofoacajaaDoor
open Go.RowKit Vi Go.WideMaps Go.Maps

def emI (v : Value) : Option (DataW Nat × List MemPlace) := match v with
  | .agg a => if a.size = 0 then some (.nil, []) else none
  | _ => none
theorem emI_inv {v : Value} {z : DataW Nat × List MemPlace} (h : emI v = some z) : v = .agg #[] := by
  unfold emI at h
  split at h
  · next a =>
    split at h
    · next h0 => rw [Array.size_eq_zero_iff.1 h0]
    · cases h
  · cases h
/-- a set of texts -/
def SetI (w : World) (B : Nat) (ks : List Int) : Prop := ∃ n D, w.ownsMap Tryd.prog 3 emI B n D ∧ n ≤ ks.length ∧ IsMap D ∧ ∀ s : Int, (Lit.int .i64 s).wf = true → has D (.int .i64 s) = ks.any fun x => x == s
theorem SetI.made (w : World) : SetI (w.alloc (.map #[] 0)) w.heap.size [] :=
  ⟨0, .map [], World.ownsMap_made w _ _ _, Nat.le_refl _, isMap_empty, fun _ _ => rfl⟩
theorem SetI.kept {w w' : World} {B : Nat} {ks : List Int} (h : SetI w B ks) (hb : w'.heap[B]? = w.heap[B]?) : SetI w' B ks := by
  obtain ⟨n, D, ⟨es, cl, h1, h2⟩, h3⟩ := h
  exact ⟨n, D, ⟨es, cl, hb.trans h1, h2⟩, h3⟩
theorem SetI.lt {w : World} {B : Nat} {ks : List Int} (h : SetI w B ks) : B < w.heap.size := by
  obtain ⟨n, D, h1, _⟩ := h
  exact h1.lt
end Go.Proofs.YtagenkofoacajaaDoor
