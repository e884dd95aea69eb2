/-
  No cell of these rows narrows 'for every input' (looked for: loops, veiled, ifaces, maps, wideKeys, modest, calm, conditions, laid).
  DERIVED. THE GIVEN ROWS OF THIS SEAT. 10 by the template 'for every input the law returns true; each argument reads behind the call as it read before'; 0 by the template 'total and deterministic' (their statements: YtdjjabjegmbmaaaTotals.lean).
  GIVEN WITH THE SEED: the statements are not yours to turn. If you find one false, say at which input.
  Laid BY PROGRAM, IN A SANDBOX (cutbox-rows.mjs): the forced cells as the released guide's own fill.sh prints them over the translation 47a7eca52f9e5293… (all of the seat's roots in one cut). By AI agents, Wed Nov 11 2026. No macro, syntax, notation, axiom, sorry.
-/
import Derived.Test.YtdjjabjegmbmaaaChecked
import GoSem.Claim
import GoSem.ClaimJoined
import GoSem.ClaimMapViews
import Derived.JoinedTies
import Derived.KernelRfl
namespace Go.Proofs.Ytdjjabjegmbmaaa
/- THE CELL 'sum', in the pinned program and in every row, IS THE sha256 OF THE DUMP (.gsa) THAT YtdjjabjegmbmaaaProg.lean LOADS. Nothing in Lean hashes anything: it is a label: what it is worth is what the hold of that sum in a sandbox is worth. -/
noncomputable def Try.pinned : Pinned := { name := "ytdjjabjegmbmaaa", sum := "47a7eca52f9e529396221ad70fbca3e03385fc22fa8df717322eb3e9dc3d695d", checked := Try.checked }
namespace Rows
def none {H : Type} : Left H := { results := [], args := [] }

/-- 'pleachlaw19.ChunkTakes': WHATEVER THE INPUT: true; the input reads as it did. -/
def chunkTakesSpec : ChangeSpec := { name := "chunkTakes", fn := fun _ => fun
  | [d] => { results := [.lit (.bool true)], args := [d] }
  | _ => none }
def chunkTakesRow : OpenClaim := { program := "ytdjjabjegmbmaaa", sum := "47a7eca52f9e529396221ad70fbca3e03385fc22fa8df717322eb3e9dc3d695d", func := "pleach/pleachlaw19.ChunkTakes", spec := "chunkTakes", inPlace := ["internal/abi.NoEscape"], unfollowed := true, recurses := true, apart := false }
def ChunkTakesSaid : Prop := chunkTakesRow.holds Try.pinned (OpenSpec.ofChange chunkTakesSpec)

/-- ITS FALSE NEIGHBOUR: 'it returns false'. Refute it at one input. -/
def chunkTakesWrong : ChangeSpec := { name := "chunkTakes", fn := fun _ => fun
  | [d] => { results := [.lit (.bool false)], args := [d] }
  | _ => none }
def ChunkTakesWrongFalsely : Prop := chunkTakesRow.holds Try.pinned (OpenSpec.ofChange chunkTakesWrong)

/-- 'pleachlaw19.ChunkTells': WHATEVER THE INPUT: true; the input reads as it did. -/
def chunkTellsSpec : ChangeSpec := { name := "chunkTells", fn := fun _ => fun
  | [d1, d2, d3, d4] => { results := [.lit (.bool true)], args := [d1, d2, d3, d4] }
  | _ => none }
def chunkTellsRow : OpenClaim := { program := "ytdjjabjegmbmaaa", sum := "47a7eca52f9e529396221ad70fbca3e03385fc22fa8df717322eb3e9dc3d695d", func := "pleach/pleachlaw19.ChunkTells", spec := "chunkTells", inPlace := ["internal/abi.NoEscape"], unfollowed := true, recurses := true, apart := false }
def ChunkTellsSaid : Prop := chunkTellsRow.holds Try.pinned (OpenSpec.ofChange chunkTellsSpec)

/-- ITS FALSE NEIGHBOUR: 'it returns false'. Refute it at one input. -/
def chunkTellsWrong : ChangeSpec := { name := "chunkTells", fn := fun _ => fun
  | [d1, d2, d3, d4] => { results := [.lit (.bool false)], args := [d1, d2, d3, d4] }
  | _ => none }
def ChunkTellsWrongFalsely : Prop := chunkTellsRow.holds Try.pinned (OpenSpec.ofChange chunkTellsWrong)

/-- 'pleachlaw25.ElemNodes': WHATEVER THE INPUT: true; the input reads as it did. -/
def elemNodesSpec : ChangeSpec := { name := "elemNodes", fn := fun _ => fun
  | [d] => { results := [.lit (.bool true)], args := [d] }
  | _ => none }
def elemNodesRow : OpenClaim := { program := "ytdjjabjegmbmaaa", sum := "47a7eca52f9e529396221ad70fbca3e03385fc22fa8df717322eb3e9dc3d695d", func := "pleach/pleachlaw25.ElemNodes", spec := "elemNodes", apart := false }
def ElemNodesSaid : Prop := elemNodesRow.holds Try.pinned (OpenSpec.ofChange elemNodesSpec)

/-- ITS FALSE NEIGHBOUR: 'it returns false'. Refute it at one input. -/
def elemNodesWrong : ChangeSpec := { name := "elemNodes", fn := fun _ => fun
  | [d] => { results := [.lit (.bool false)], args := [d] }
  | _ => none }
def ElemNodesWrongFalsely : Prop := elemNodesRow.holds Try.pinned (OpenSpec.ofChange elemNodesWrong)

/-- 'pleachlaw25.ElemEdges': WHATEVER THE INPUT: true; the input reads as it did. -/
def elemEdgesSpec : ChangeSpec := { name := "elemEdges", fn := fun _ => fun
  | [d] => { results := [.lit (.bool true)], args := [d] }
  | _ => none }
def elemEdgesRow : OpenClaim := { program := "ytdjjabjegmbmaaa", sum := "47a7eca52f9e529396221ad70fbca3e03385fc22fa8df717322eb3e9dc3d695d", func := "pleach/pleachlaw25.ElemEdges", spec := "elemEdges", apart := false }
def ElemEdgesSaid : Prop := elemEdgesRow.holds Try.pinned (OpenSpec.ofChange elemEdgesSpec)

/-- ITS FALSE NEIGHBOUR: 'it returns false'. Refute it at one input. -/
def elemEdgesWrong : ChangeSpec := { name := "elemEdges", fn := fun _ => fun
  | [d] => { results := [.lit (.bool false)], args := [d] }
  | _ => none }
def ElemEdgesWrongFalsely : Prop := elemEdgesRow.holds Try.pinned (OpenSpec.ofChange elemEdgesWrong)

/-- 'pleachlaw25.ElemTakes': WHATEVER THE INPUT: true; the input reads as it did. -/
def elemTakesSpec : ChangeSpec := { name := "elemTakes", fn := fun _ => fun
  | [d1, d2] => { results := [.lit (.bool true)], args := [d1, d2] }
  | _ => none }
def elemTakesRow : OpenClaim := { program := "ytdjjabjegmbmaaa", sum := "47a7eca52f9e529396221ad70fbca3e03385fc22fa8df717322eb3e9dc3d695d", func := "pleach/pleachlaw25.ElemTakes", spec := "elemTakes", unfollowed := true, recurses := true, apart := false }
def ElemTakesSaid : Prop := elemTakesRow.holds Try.pinned (OpenSpec.ofChange elemTakesSpec)

/-- ITS FALSE NEIGHBOUR: 'it returns false'. Refute it at one input. -/
def elemTakesWrong : ChangeSpec := { name := "elemTakes", fn := fun _ => fun
  | [d1, d2] => { results := [.lit (.bool false)], args := [d1, d2] }
  | _ => none }
def ElemTakesWrongFalsely : Prop := elemTakesRow.holds Try.pinned (OpenSpec.ofChange elemTakesWrong)

/-- 'pleachlaw25.ElemBack': WHATEVER THE INPUT: true; the input reads as it did. -/
def elemBackSpec : ChangeSpec := { name := "elemBack", fn := fun _ => fun
  | [d1, d2, d3] => { results := [.lit (.bool true)], args := [d1, d2, d3] }
  | _ => none }
def elemBackRow : OpenClaim := { program := "ytdjjabjegmbmaaa", sum := "47a7eca52f9e529396221ad70fbca3e03385fc22fa8df717322eb3e9dc3d695d", func := "pleach/pleachlaw25.ElemBack", spec := "elemBack", unfollowed := true, recurses := true, apart := false }
def ElemBackSaid : Prop := elemBackRow.holds Try.pinned (OpenSpec.ofChange elemBackSpec)

/-- ITS FALSE NEIGHBOUR: 'it returns false'. Refute it at one input. -/
def elemBackWrong : ChangeSpec := { name := "elemBack", fn := fun _ => fun
  | [d1, d2, d3] => { results := [.lit (.bool false)], args := [d1, d2, d3] }
  | _ => none }
def ElemBackWrongFalsely : Prop := elemBackRow.holds Try.pinned (OpenSpec.ofChange elemBackWrong)

/-- 'pleachlaw25.ElemTurns': WHATEVER THE INPUT: true; the input reads as it did. -/
def elemTurnsSpec : ChangeSpec := { name := "elemTurns", fn := fun _ => fun
  | [d1, d2, d3, d4] => { results := [.lit (.bool true)], args := [d1, d2, d3, d4] }
  | _ => none }
def elemTurnsRow : OpenClaim := { program := "ytdjjabjegmbmaaa", sum := "47a7eca52f9e529396221ad70fbca3e03385fc22fa8df717322eb3e9dc3d695d", func := "pleach/pleachlaw25.ElemTurns", spec := "elemTurns", unfollowed := true, recurses := true, apart := false }
def ElemTurnsSaid : Prop := elemTurnsRow.holds Try.pinned (OpenSpec.ofChange elemTurnsSpec)

/-- ITS FALSE NEIGHBOUR: 'it returns false'. Refute it at one input. -/
def elemTurnsWrong : ChangeSpec := { name := "elemTurns", fn := fun _ => fun
  | [d1, d2, d3, d4] => { results := [.lit (.bool false)], args := [d1, d2, d3, d4] }
  | _ => none }
def ElemTurnsWrongFalsely : Prop := elemTurnsRow.holds Try.pinned (OpenSpec.ofChange elemTurnsWrong)

/-- 'pleachlaw27.FactsOrder': WHATEVER THE INPUT: true; the input reads as it did. -/
def factsOrderSpec : ChangeSpec := { name := "factsOrder", fn := fun _ => fun
  | [d1, d2, d3] => { results := [.lit (.bool true)], args := [d1, d2, d3] }
  | _ => none }
def factsOrderRow : OpenClaim := { program := "ytdjjabjegmbmaaa", sum := "47a7eca52f9e529396221ad70fbca3e03385fc22fa8df717322eb3e9dc3d695d", func := "pleach/pleachlaw27.FactsOrder", spec := "factsOrder", inPlace := ["internal/bytealg.IndexByteString", "internal/bytealg.IndexString"], named := ["internal/bytealg.MaxLen"], apart := false }
def FactsOrderSaid : Prop := factsOrderRow.holds Try.pinned (OpenSpec.ofChange factsOrderSpec)

/-- ITS FALSE NEIGHBOUR: 'it returns false'. Refute it at one input. -/
def factsOrderWrong : ChangeSpec := { name := "factsOrder", fn := fun _ => fun
  | [d1, d2, d3] => { results := [.lit (.bool false)], args := [d1, d2, d3] }
  | _ => none }
def FactsOrderWrongFalsely : Prop := factsOrderRow.holds Try.pinned (OpenSpec.ofChange factsOrderWrong)

/-- 'pleachlaw26.GraphOps': WHATEVER THE INPUT: true; the input reads as it did. -/
def graphOpsSpec : ChangeSpec := { name := "graphOps", fn := fun _ => fun
  | [d1, d2] => { results := [.lit (.bool true)], args := [d1, d2] }
  | _ => none }
def graphOpsRow : OpenClaim := { program := "ytdjjabjegmbmaaa", sum := "47a7eca52f9e529396221ad70fbca3e03385fc22fa8df717322eb3e9dc3d695d", func := "pleach/pleachlaw26.GraphOps", spec := "graphOps", inPlace := ["slices.overlaps[pleach/api.Node]", "slices.overlaps[pleach/api.Edge]"], unfollowed := true, recurses := true, apart := false }
def GraphOpsSaid : Prop := graphOpsRow.holds Try.pinned (OpenSpec.ofChange graphOpsSpec)

/-- ITS FALSE NEIGHBOUR: 'it returns false'. Refute it at one input. -/
def graphOpsWrong : ChangeSpec := { name := "graphOps", fn := fun _ => fun
  | [d1, d2] => { results := [.lit (.bool false)], args := [d1, d2] }
  | _ => none }
def GraphOpsWrongFalsely : Prop := graphOpsRow.holds Try.pinned (OpenSpec.ofChange graphOpsWrong)

/-- 'pleachlaw26.GraphChecks': WHATEVER THE INPUT: true; the input reads as it did. -/
def graphChecksSpec : ChangeSpec := { name := "graphChecks", fn := fun _ => fun
  | [d1, d2] => { results := [.lit (.bool true)], args := [d1, d2] }
  | _ => none }
def graphChecksRow : OpenClaim := { program := "ytdjjabjegmbmaaa", sum := "47a7eca52f9e529396221ad70fbca3e03385fc22fa8df717322eb3e9dc3d695d", func := "pleach/pleachlaw26.GraphChecks", spec := "graphChecks", inPlace := ["slices.overlaps[pleach/api.Node]", "slices.overlaps[pleach/api.Edge]"], unfollowed := true, recurses := true, apart := false }
def GraphChecksSaid : Prop := graphChecksRow.holds Try.pinned (OpenSpec.ofChange graphChecksSpec)

/-- ITS FALSE NEIGHBOUR: 'it returns false'. Refute it at one input. -/
def graphChecksWrong : ChangeSpec := { name := "graphChecks", fn := fun _ => fun
  | [d1, d2] => { results := [.lit (.bool false)], args := [d1, d2] }
  | _ => none }
def GraphChecksWrongFalsely : Prop := graphChecksRow.holds Try.pinned (OpenSpec.ofChange graphChecksWrong)

/- THE SECOND FORM. 'bulk': how many values and letters a reading holds, each counted each time it is reached (what is shared counts as often as it is met; a slice's spare places count too). A statement '..UptoSaid' is the law's where the arguments, and the package variables that the reading takes, are together of bulk at most 1048576: NARROWER than '..Said'. Prove '..Said' where nothing that the law and all that it calls make is longer than what came in: it says more and counts as full. Else prove '..UptoSaid'. A law counts once. -/
mutual
def uptoBulk {H : Type} : DataW H → Nat
  | .lit (.string bytes) => bytes.length + 1
  | .lit _ => 1
  | .nil => 1
  | .ptr d => uptoBulk d + 1
  | .slice elems spare => uptoBulkAll elems + uptoBulkAll spare + 1
  | .agg parts => uptoBulkAll parts + 1
  | .iface _ d => uptoBulk d + 1
  | .map entries => uptoBulkEntries entries + 1
  | .held _ => 1
def uptoBulkAll {H : Type} : List (DataW H) → Nat
  | [] => 0
  | d :: r => uptoBulk d + uptoBulkAll r
def uptoBulkEntries {H : Type} : List (Lit × DataW H) → Nat
  | [] => 0
  | x :: r => uptoBulkEntry x + uptoBulkEntries r
def uptoBulkEntry {H : Type} : Lit × DataW H → Nat
  | (.string bytes, d) => bytes.length + uptoBulk d + 1
  | (_, d) => uptoBulk d + 1
 end
def uptoSmall : (H : Type) → List (DataW H) → Bool := fun _ ds => decide (uptoBulkAll ds ≤ 1048576)
def OpenSpec.upto (s : _root_.Go.ChangeSpec) : _root_.Go.OpenSpec := { _root_.Go.OpenSpec.ofChange s with cond := some uptoSmall }

/-- 'pleachlaw19.ChunkTakes', WHERE WHAT IT READS IS OF BULK AT MOST 1048576: true; the input reads as it did. -/
def chunkTakesUptoRow : OpenClaim := { program := "ytdjjabjegmbmaaa", sum := "47a7eca52f9e529396221ad70fbca3e03385fc22fa8df717322eb3e9dc3d695d", func := "pleach/pleachlaw19.ChunkTakes", spec := "chunkTakes", inPlace := ["internal/abi.NoEscape"], unfollowed := true, recurses := true, apart := false, narrowed := true }
def ChunkTakesUptoSaid : Prop := chunkTakesUptoRow.holds Try.pinned (OpenSpec.upto chunkTakesSpec)

/-- 'pleachlaw19.ChunkTells', WHERE WHAT IT READS IS OF BULK AT MOST 1048576: true; the input reads as it did. -/
def chunkTellsUptoRow : OpenClaim := { program := "ytdjjabjegmbmaaa", sum := "47a7eca52f9e529396221ad70fbca3e03385fc22fa8df717322eb3e9dc3d695d", func := "pleach/pleachlaw19.ChunkTells", spec := "chunkTells", inPlace := ["internal/abi.NoEscape"], unfollowed := true, recurses := true, apart := false, narrowed := true }
def ChunkTellsUptoSaid : Prop := chunkTellsUptoRow.holds Try.pinned (OpenSpec.upto chunkTellsSpec)

/-- 'pleachlaw25.ElemNodes', WHERE WHAT IT READS IS OF BULK AT MOST 1048576: true; the input reads as it did. -/
def elemNodesUptoRow : OpenClaim := { program := "ytdjjabjegmbmaaa", sum := "47a7eca52f9e529396221ad70fbca3e03385fc22fa8df717322eb3e9dc3d695d", func := "pleach/pleachlaw25.ElemNodes", spec := "elemNodes", apart := false, narrowed := true }
def ElemNodesUptoSaid : Prop := elemNodesUptoRow.holds Try.pinned (OpenSpec.upto elemNodesSpec)

/-- 'pleachlaw25.ElemEdges', WHERE WHAT IT READS IS OF BULK AT MOST 1048576: true; the input reads as it did. -/
def elemEdgesUptoRow : OpenClaim := { program := "ytdjjabjegmbmaaa", sum := "47a7eca52f9e529396221ad70fbca3e03385fc22fa8df717322eb3e9dc3d695d", func := "pleach/pleachlaw25.ElemEdges", spec := "elemEdges", apart := false, narrowed := true }
def ElemEdgesUptoSaid : Prop := elemEdgesUptoRow.holds Try.pinned (OpenSpec.upto elemEdgesSpec)

/-- 'pleachlaw25.ElemTakes', WHERE WHAT IT READS IS OF BULK AT MOST 1048576: true; the input reads as it did. -/
def elemTakesUptoRow : OpenClaim := { program := "ytdjjabjegmbmaaa", sum := "47a7eca52f9e529396221ad70fbca3e03385fc22fa8df717322eb3e9dc3d695d", func := "pleach/pleachlaw25.ElemTakes", spec := "elemTakes", unfollowed := true, recurses := true, apart := false, narrowed := true }
def ElemTakesUptoSaid : Prop := elemTakesUptoRow.holds Try.pinned (OpenSpec.upto elemTakesSpec)

/-- 'pleachlaw25.ElemBack', WHERE WHAT IT READS IS OF BULK AT MOST 1048576: true; the input reads as it did. -/
def elemBackUptoRow : OpenClaim := { program := "ytdjjabjegmbmaaa", sum := "47a7eca52f9e529396221ad70fbca3e03385fc22fa8df717322eb3e9dc3d695d", func := "pleach/pleachlaw25.ElemBack", spec := "elemBack", unfollowed := true, recurses := true, apart := false, narrowed := true }
def ElemBackUptoSaid : Prop := elemBackUptoRow.holds Try.pinned (OpenSpec.upto elemBackSpec)

/-- 'pleachlaw25.ElemTurns', WHERE WHAT IT READS IS OF BULK AT MOST 1048576: true; the input reads as it did. -/
def elemTurnsUptoRow : OpenClaim := { program := "ytdjjabjegmbmaaa", sum := "47a7eca52f9e529396221ad70fbca3e03385fc22fa8df717322eb3e9dc3d695d", func := "pleach/pleachlaw25.ElemTurns", spec := "elemTurns", unfollowed := true, recurses := true, apart := false, narrowed := true }
def ElemTurnsUptoSaid : Prop := elemTurnsUptoRow.holds Try.pinned (OpenSpec.upto elemTurnsSpec)

/-- 'pleachlaw27.FactsOrder', WHERE WHAT IT READS IS OF BULK AT MOST 1048576: true; the input reads as it did. -/
def factsOrderUptoRow : OpenClaim := { program := "ytdjjabjegmbmaaa", sum := "47a7eca52f9e529396221ad70fbca3e03385fc22fa8df717322eb3e9dc3d695d", func := "pleach/pleachlaw27.FactsOrder", spec := "factsOrder", inPlace := ["internal/bytealg.IndexByteString", "internal/bytealg.IndexString"], named := ["internal/bytealg.MaxLen"], apart := false, narrowed := true }
def FactsOrderUptoSaid : Prop := factsOrderUptoRow.holds Try.pinned (OpenSpec.upto factsOrderSpec)

/-- 'pleachlaw26.GraphOps', WHERE WHAT IT READS IS OF BULK AT MOST 1048576: true; the input reads as it did. -/
def graphOpsUptoRow : OpenClaim := { program := "ytdjjabjegmbmaaa", sum := "47a7eca52f9e529396221ad70fbca3e03385fc22fa8df717322eb3e9dc3d695d", func := "pleach/pleachlaw26.GraphOps", spec := "graphOps", inPlace := ["slices.overlaps[pleach/api.Node]", "slices.overlaps[pleach/api.Edge]"], unfollowed := true, recurses := true, apart := false, narrowed := true }
def GraphOpsUptoSaid : Prop := graphOpsUptoRow.holds Try.pinned (OpenSpec.upto graphOpsSpec)

/-- 'pleachlaw26.GraphChecks', WHERE WHAT IT READS IS OF BULK AT MOST 1048576: true; the input reads as it did. -/
def graphChecksUptoRow : OpenClaim := { program := "ytdjjabjegmbmaaa", sum := "47a7eca52f9e529396221ad70fbca3e03385fc22fa8df717322eb3e9dc3d695d", func := "pleach/pleachlaw26.GraphChecks", spec := "graphChecks", inPlace := ["slices.overlaps[pleach/api.Node]", "slices.overlaps[pleach/api.Edge]"], unfollowed := true, recurses := true, apart := false, narrowed := true }
def GraphChecksUptoSaid : Prop := graphChecksUptoRow.holds Try.pinned (OpenSpec.upto graphChecksSpec)

end Rows
end Go.Proofs.Ytdjjabjegmbmaaa
