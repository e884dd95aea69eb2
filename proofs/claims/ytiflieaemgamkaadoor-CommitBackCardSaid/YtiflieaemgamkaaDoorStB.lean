/- Texts as rows of one cell. No condition. -/
import Derived.Test.YtiflieaemgamkaaDoorPr
import Derived.Test.YtiflieaemgamkaaDoorPx
namespace Go.Proofs.YtiflieaemgamkaaDoor
open Go.RowKit Vi

theorem RdX.cellAt {α : Type} {f : α → List Value} {s : Nat} {w : World} {n b off k : Nat} {l : List α} {x : α} (h : RdX f s w (some ⟨b, off, none⟩) n l) (hx : l[k]? = some x) (hk : k < n) (j : Nat) (u : Value) (hu : (f x)[j]? = some u) : w.cell? ⟨b, off + k * s + j, none⟩ = some u := by
  obtain ⟨b2, off2, e, _, hc⟩ := h.2 (by omega)
  cases e
  exact hc k x j u hx hu
theorem of_same {P : Program} {f : FuncId} {args : Array Value} {W : World} {v : Value} (h : Calls P f args W fun e w' => e = .returned v ∧ W = w') : Calls P f args W fun e w' => e = .returned v ∧ Below W.heap.size W w' :=
  h.mono fun _ _ ⟨h1, h2⟩ => ⟨h1, h2 ▸ Below.refl _ _⟩
theorem of_drew {P : Program} {f : FuncId} {args : Array Value} {W : World} {v : Value} (h : Calls P f args W fun e w' => e = .returned v ∧ ∃ q, w' = W.drewN q) : Calls P f args W fun e w' => e = .returned v ∧ Below W.heap.size W w' :=
  h.mono fun _ _ ⟨h1, q, h2⟩ => ⟨h1, by subst h2; exact ⟨rfl, rfl, rfl, Nat.le_refl _, fun _ _ => rfl⟩⟩
def stC (s : ByteArray) : List Value := [.string s]
theorem stC_len (s : ByteArray) : (stC s).length = 1 := rfl
theorem stC_one (p : ByteArray) : ∀ u ∈ stC p, u.oneCell' = true := by
  intro u hu
  simp [stC] at hu
  subst hu; rfl
theorem info_stA : (Tryd.prog.info? 9).map (fun i => (i.zero, i.size, i.bytes)) = some (some (.string ⟨#[]⟩), 1, 16) := by kernel_rfl
end Go.Proofs.YtiflieaemgamkaaDoor
