/- What the parts of the sum's walk share. -/
import Derived.Test.YtiflieaemgamkaaDoorHi
import Derived.Test.YtiflieaemgamkaaDoorHk
import Derived.Deep.QuietTactic
import Derived.BigQuiet
import Derived.RegionTactic
namespace Go.Proofs.YtiflieaemgamkaaDoor
open Go.RowKit Hm

/-- the table in memory -/
def HTab (w : World) : Prop := ∀ j, j < 64 → w.cell? ⟨0, j, none⟩ = some (.int .u32 ((consts.getD j 0 : Nat) : Int))
theorem HTab.later {w w' : World} (h : HTab w) (hb : Below w.heap.size w w') : HTab w' := fun j hj => by
  rw [hb.cell (p := ⟨0, j, none⟩) (World.block_lt_of_cell? w _ (h j hj))]; exact h j hj
theorem SH.isH {w : World} {B : Nat} {h : List Nat} {b : List UInt8} {n : Nat} (H : SH w B h b n) : IsH w B h b n :=
  ⟨H.hl, H.hlt, H.bl, H.made, H.words, H.bytes, H.count, fun j _ => H.free j, H.lt⟩
theorem wpList_store_rowN {ops : Array Oper} {rest : List Oper} {o : Oper} {a : Act} {w : World} {Q : Exit → Act → World → Prop} (hgd : o.guard = none) (ty : TypeId) (x y : Operand) (ho : o.op = .store ty x y)
    (g : Nat) (cells : Array Value) (hx : a.eval x = .pointer (some ⟨g, 0, none⟩)) (hy : a.eval y = .agg cells)
    (t : TypeId) (old : Array Value) (hg : w.heap[g]? = some (.cells old t (0, 0))) (hi : (Tryd.prog.info? ty).map (·.size) = some cells.size)
    (hold : old.size = cells.size) (h1 : cells.all (·.oneCell') = true) (n : Nat) (w0 : World) (hb : Below n w0 w) (hn : n ≤ g)
    (h : ∀ w', Hid (w'.heap[g]? = some (.cells cells t (0, 0))) → Hid (Below n w0 w') → Hid (w'.heap.size = w.heap.size) → wpList Tryd.prog ops Q rest (a.put o.dst undef) w') : wpList Tryd.prog ops Q (o :: rest) a w :=
  wpList_store_row hgd ty x y ho g cells hx hy t old hg hi hold h1 (h _ (setRow_heap w g old cells t (0, 0) hg) (below_setRow hb hn cells) (size_setRow w g cells))
/-- what mix does -/
def MixC : Prop := ∀ (B : Nat) (h : List Nat) (b : List UInt8) (n : Nat) (w : World), SH w B h b n → HTab w →
    Calls Tryd.prog 43 #[.pointer (some ⟨B, 0, none⟩)] w fun e w' => e = .returned (.tuple #[]) ∧ SH w' B (mix h b) b n ∧ Only B w w'
end Go.Proofs.YtiflieaemgamkaaDoor
