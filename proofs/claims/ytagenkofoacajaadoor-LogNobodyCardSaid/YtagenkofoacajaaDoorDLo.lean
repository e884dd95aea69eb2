/- Crash over this translation. Conditions: less than a million writes, less than a million numbers. -/
import Derived.Test.YtagenkofoacajaaDoorDLn
namespace Go.Proofs.YtagenkofoacajaaDoor
open Go.RowKit Vi Go.WideMaps Go.Maps

def inC (n : Int) : List Value := [.int .i64 n]
theorem inC_len (n : Int) : (inC n).length = 1 := rfl
theorem DK.newB {D : Nat} {SS : List ByteArray} {CC : List Wr} {dn : Bool} {ops fu : Int} {w wr : World} (h : DK D SS CC dn ops fu w) (hb : Below w.heap.size w wr) {b : Nat} (q : InD D wr b) : b < w.heap.size := by
  have hD := h.lt
  refine h.new ?_
  rcases q with q | ⟨o, n, c, q⟩ | ⟨o, n, c, q⟩
  · exact .inl q
  · exact .inr (.inl ⟨o, n, c, by rw [← hb.cell (p := ⟨D, 0, none⟩) hD]; exact q⟩)
  · exact .inr (.inr ⟨o, n, c, by rw [← hb.cell (p := ⟨D, 1, none⟩) hD]; exact q⟩)
end Go.Proofs.YtagenkofoacajaaDoor
