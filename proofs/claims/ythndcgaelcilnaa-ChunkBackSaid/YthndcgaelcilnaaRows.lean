/-
  No cell of these rows narrows 'for every input' (looked for: loops, veiled, ifaces, maps, wideKeys, modest, calm, conditions, laid).
  DERIVED. THE GIVEN ROWS OF THIS SEAT. 12 by the template 'for every input the law returns true; each argument reads behind the call as it read before'; 0 by the template 'total and deterministic' (their statements: YthndcgaelcilnaaTotals.lean).
  GIVEN WITH THE SEED: the statements are not yours to turn. If you find one false, say at which input.
  Laid BY PROGRAM, IN A SANDBOX (cutbox-rows.mjs): the forced cells as the released guide's own fill.sh prints them over the translation a57689955b21676d… (all of the seat's roots in one cut). By AI agents, Wed Nov 11 2026. No macro, syntax, notation, axiom, sorry.
-/
import Derived.Test.YthndcgaelcilnaaChecked
import GoSem.Claim
import GoSem.ClaimJoined
import GoSem.ClaimMapViews
import Derived.JoinedTies
import Derived.KernelRfl
namespace Go.Proofs.Ythndcgaelcilnaa
/- THE CELL 'sum', in the pinned program and in every row, IS THE sha256 OF THE DUMP (.gsa) THAT YthndcgaelcilnaaProg.lean LOADS. Nothing in Lean hashes anything: it is a label: what it is worth is what the hold of that sum in a sandbox is worth. -/
noncomputable def Try.pinned : Pinned := { name := "ythndcgaelcilnaa", sum := "a57689955b21676dd43f0733cdefb7ce4bd4f9f2e8a14b67f46d7e0dc26c6272", checked := Try.checked }
namespace Rows
def none {H : Type} : Left H := { results := [], args := [] }

/-- 'pleachlaw11.DeltaPuts': WHATEVER THE INPUT: true; the input reads as it did. -/
def deltaPutsSpec : ChangeSpec := { name := "deltaPuts", fn := fun _ => fun
  | [d1, d2] => { results := [.lit (.bool true)], args := [d1, d2] }
  | _ => none }
def deltaPutsRow : OpenClaim := { program := "ythndcgaelcilnaa", sum := "a57689955b21676dd43f0733cdefb7ce4bd4f9f2e8a14b67f46d7e0dc26c6272", func := "pleach/pleachlaw11.DeltaPuts", spec := "deltaPuts", inPlace := ["internal/abi.NoEscape"], apart := false }
def DeltaPutsSaid : Prop := deltaPutsRow.holds Try.pinned (OpenSpec.ofChange deltaPutsSpec)

/-- ITS FALSE NEIGHBOUR: 'it returns false'. Refute it at one input. -/
def deltaPutsWrong : ChangeSpec := { name := "deltaPuts", fn := fun _ => fun
  | [d1, d2] => { results := [.lit (.bool false)], args := [d1, d2] }
  | _ => none }
def DeltaPutsWrongFalsely : Prop := deltaPutsRow.holds Try.pinned (OpenSpec.ofChange deltaPutsWrong)

/-- 'pleachlaw11.DeltaTakes': WHATEVER THE INPUT: true; the input reads as it did. -/
def deltaTakesSpec : ChangeSpec := { name := "deltaTakes", fn := fun _ => fun
  | [d1, d2] => { results := [.lit (.bool true)], args := [d1, d2] }
  | _ => none }
def deltaTakesRow : OpenClaim := { program := "ythndcgaelcilnaa", sum := "a57689955b21676dd43f0733cdefb7ce4bd4f9f2e8a14b67f46d7e0dc26c6272", func := "pleach/pleachlaw11.DeltaTakes", spec := "deltaTakes", inPlace := ["internal/abi.NoEscape"], unfollowed := true, recurses := true, apart := false }
def DeltaTakesSaid : Prop := deltaTakesRow.holds Try.pinned (OpenSpec.ofChange deltaTakesSpec)

/-- ITS FALSE NEIGHBOUR: 'it returns false'. Refute it at one input. -/
def deltaTakesWrong : ChangeSpec := { name := "deltaTakes", fn := fun _ => fun
  | [d1, d2] => { results := [.lit (.bool false)], args := [d1, d2] }
  | _ => none }
def DeltaTakesWrongFalsely : Prop := deltaTakesRow.holds Try.pinned (OpenSpec.ofChange deltaTakesWrong)

/-- 'pleachlaw11.DeltaBack': WHATEVER THE INPUT: true; the input reads as it did. -/
def deltaBackSpec : ChangeSpec := { name := "deltaBack", fn := fun _ => fun
  | [d1, d2, d3] => { results := [.lit (.bool true)], args := [d1, d2, d3] }
  | _ => none }
def deltaBackRow : OpenClaim := { program := "ythndcgaelcilnaa", sum := "a57689955b21676dd43f0733cdefb7ce4bd4f9f2e8a14b67f46d7e0dc26c6272", func := "pleach/pleachlaw11.DeltaBack", spec := "deltaBack", inPlace := ["internal/abi.NoEscape"], unfollowed := true, recurses := true, apart := false }
def DeltaBackSaid : Prop := deltaBackRow.holds Try.pinned (OpenSpec.ofChange deltaBackSpec)

/-- ITS FALSE NEIGHBOUR: 'it returns false'. Refute it at one input. -/
def deltaBackWrong : ChangeSpec := { name := "deltaBack", fn := fun _ => fun
  | [d1, d2, d3] => { results := [.lit (.bool false)], args := [d1, d2, d3] }
  | _ => none }
def DeltaBackWrongFalsely : Prop := deltaBackRow.holds Try.pinned (OpenSpec.ofChange deltaBackWrong)

/-- 'pleachlaw19.ChunkTakes': WHATEVER THE INPUT: true; the input reads as it did. -/
def chunkTakesSpec : ChangeSpec := { name := "chunkTakes", fn := fun _ => fun
  | [d] => { results := [.lit (.bool true)], args := [d] }
  | _ => none }
def chunkTakesRow : OpenClaim := { program := "ythndcgaelcilnaa", sum := "a57689955b21676dd43f0733cdefb7ce4bd4f9f2e8a14b67f46d7e0dc26c6272", func := "pleach/pleachlaw19.ChunkTakes", spec := "chunkTakes", inPlace := ["internal/abi.NoEscape"], unfollowed := true, recurses := true, apart := false }
def ChunkTakesSaid : Prop := chunkTakesRow.holds Try.pinned (OpenSpec.ofChange chunkTakesSpec)

/-- ITS FALSE NEIGHBOUR: 'it returns false'. Refute it at one input. -/
def chunkTakesWrong : ChangeSpec := { name := "chunkTakes", fn := fun _ => fun
  | [d] => { results := [.lit (.bool false)], args := [d] }
  | _ => none }
def ChunkTakesWrongFalsely : Prop := chunkTakesRow.holds Try.pinned (OpenSpec.ofChange chunkTakesWrong)

/-- 'pleachlaw19.ChunkTells': WHATEVER THE INPUT: true; the input reads as it did. -/
def chunkTellsSpec : ChangeSpec := { name := "chunkTells", fn := fun _ => fun
  | [d1, d2, d3, d4] => { results := [.lit (.bool true)], args := [d1, d2, d3, d4] }
  | _ => none }
def chunkTellsRow : OpenClaim := { program := "ythndcgaelcilnaa", sum := "a57689955b21676dd43f0733cdefb7ce4bd4f9f2e8a14b67f46d7e0dc26c6272", func := "pleach/pleachlaw19.ChunkTells", spec := "chunkTells", inPlace := ["internal/abi.NoEscape"], unfollowed := true, recurses := true, apart := false }
def ChunkTellsSaid : Prop := chunkTellsRow.holds Try.pinned (OpenSpec.ofChange chunkTellsSpec)

/-- ITS FALSE NEIGHBOUR: 'it returns false'. Refute it at one input. -/
def chunkTellsWrong : ChangeSpec := { name := "chunkTells", fn := fun _ => fun
  | [d1, d2, d3, d4] => { results := [.lit (.bool false)], args := [d1, d2, d3, d4] }
  | _ => none }
def ChunkTellsWrongFalsely : Prop := chunkTellsRow.holds Try.pinned (OpenSpec.ofChange chunkTellsWrong)

/-- 'pleachlaw19.ChunkBack': WHATEVER THE INPUT: true; the input reads as it did. -/
def chunkBackSpec : ChangeSpec := { name := "chunkBack", fn := fun _ => fun
  | [d1, d2] => { results := [.lit (.bool true)], args := [d1, d2] }
  | _ => none }
def chunkBackRow : OpenClaim := { program := "ythndcgaelcilnaa", sum := "a57689955b21676dd43f0733cdefb7ce4bd4f9f2e8a14b67f46d7e0dc26c6272", func := "pleach/pleachlaw19.ChunkBack", spec := "chunkBack", inPlace := ["internal/abi.NoEscape"], unfollowed := true, recurses := true, apart := false }
def ChunkBackSaid : Prop := chunkBackRow.holds Try.pinned (OpenSpec.ofChange chunkBackSpec)

/-- ITS FALSE NEIGHBOUR: 'it returns false'. Refute it at one input. -/
def chunkBackWrong : ChangeSpec := { name := "chunkBack", fn := fun _ => fun
  | [d1, d2] => { results := [.lit (.bool false)], args := [d1, d2] }
  | _ => none }
def ChunkBackWrongFalsely : Prop := chunkBackRow.holds Try.pinned (OpenSpec.ofChange chunkBackWrong)

/-- 'pleachlaw25.ElemNodes': WHATEVER THE INPUT: true; the input reads as it did. -/
def elemNodesSpec : ChangeSpec := { name := "elemNodes", fn := fun _ => fun
  | [d] => { results := [.lit (.bool true)], args := [d] }
  | _ => none }
def elemNodesRow : OpenClaim := { program := "ythndcgaelcilnaa", sum := "a57689955b21676dd43f0733cdefb7ce4bd4f9f2e8a14b67f46d7e0dc26c6272", func := "pleach/pleachlaw25.ElemNodes", spec := "elemNodes", apart := false }
def ElemNodesSaid : Prop := elemNodesRow.holds Try.pinned (OpenSpec.ofChange elemNodesSpec)

/-- ITS FALSE NEIGHBOUR: 'it returns false'. Refute it at one input. -/
def elemNodesWrong : ChangeSpec := { name := "elemNodes", fn := fun _ => fun
  | [d] => { results := [.lit (.bool false)], args := [d] }
  | _ => none }
def ElemNodesWrongFalsely : Prop := elemNodesRow.holds Try.pinned (OpenSpec.ofChange elemNodesWrong)

/-- 'pleachlaw25.ElemEdges': WHATEVER THE INPUT: true; the input reads as it did. -/
def elemEdgesSpec : ChangeSpec := { name := "elemEdges", fn := fun _ => fun
  | [d] => { results := [.lit (.bool true)], args := [d] }
  | _ => none }
def elemEdgesRow : OpenClaim := { program := "ythndcgaelcilnaa", sum := "a57689955b21676dd43f0733cdefb7ce4bd4f9f2e8a14b67f46d7e0dc26c6272", func := "pleach/pleachlaw25.ElemEdges", spec := "elemEdges", apart := false }
def ElemEdgesSaid : Prop := elemEdgesRow.holds Try.pinned (OpenSpec.ofChange elemEdgesSpec)

/-- ITS FALSE NEIGHBOUR: 'it returns false'. Refute it at one input. -/
def elemEdgesWrong : ChangeSpec := { name := "elemEdges", fn := fun _ => fun
  | [d] => { results := [.lit (.bool false)], args := [d] }
  | _ => none }
def ElemEdgesWrongFalsely : Prop := elemEdgesRow.holds Try.pinned (OpenSpec.ofChange elemEdgesWrong)

/-- 'pleachlaw25.ElemTakes': WHATEVER THE INPUT: true; the input reads as it did. -/
def elemTakesSpec : ChangeSpec := { name := "elemTakes", fn := fun _ => fun
  | [d1, d2] => { results := [.lit (.bool true)], args := [d1, d2] }
  | _ => none }
def elemTakesRow : OpenClaim := { program := "ythndcgaelcilnaa", sum := "a57689955b21676dd43f0733cdefb7ce4bd4f9f2e8a14b67f46d7e0dc26c6272", func := "pleach/pleachlaw25.ElemTakes", spec := "elemTakes", unfollowed := true, recurses := true, apart := false }
def ElemTakesSaid : Prop := elemTakesRow.holds Try.pinned (OpenSpec.ofChange elemTakesSpec)

/-- ITS FALSE NEIGHBOUR: 'it returns false'. Refute it at one input. -/
def elemTakesWrong : ChangeSpec := { name := "elemTakes", fn := fun _ => fun
  | [d1, d2] => { results := [.lit (.bool false)], args := [d1, d2] }
  | _ => none }
def ElemTakesWrongFalsely : Prop := elemTakesRow.holds Try.pinned (OpenSpec.ofChange elemTakesWrong)

/-- 'pleachlaw25.ElemBack': WHATEVER THE INPUT: true; the input reads as it did. -/
def elemBackSpec : ChangeSpec := { name := "elemBack", fn := fun _ => fun
  | [d1, d2, d3] => { results := [.lit (.bool true)], args := [d1, d2, d3] }
  | _ => none }
def elemBackRow : OpenClaim := { program := "ythndcgaelcilnaa", sum := "a57689955b21676dd43f0733cdefb7ce4bd4f9f2e8a14b67f46d7e0dc26c6272", func := "pleach/pleachlaw25.ElemBack", spec := "elemBack", unfollowed := true, recurses := true, apart := false }
def ElemBackSaid : Prop := elemBackRow.holds Try.pinned (OpenSpec.ofChange elemBackSpec)

/-- ITS FALSE NEIGHBOUR: 'it returns false'. Refute it at one input. -/
def elemBackWrong : ChangeSpec := { name := "elemBack", fn := fun _ => fun
  | [d1, d2, d3] => { results := [.lit (.bool false)], args := [d1, d2, d3] }
  | _ => none }
def ElemBackWrongFalsely : Prop := elemBackRow.holds Try.pinned (OpenSpec.ofChange elemBackWrong)

/-- 'pleachlaw25.ElemTurns': WHATEVER THE INPUT: true; the input reads as it did. -/
def elemTurnsSpec : ChangeSpec := { name := "elemTurns", fn := fun _ => fun
  | [d1, d2, d3, d4] => { results := [.lit (.bool true)], args := [d1, d2, d3, d4] }
  | _ => none }
def elemTurnsRow : OpenClaim := { program := "ythndcgaelcilnaa", sum := "a57689955b21676dd43f0733cdefb7ce4bd4f9f2e8a14b67f46d7e0dc26c6272", func := "pleach/pleachlaw25.ElemTurns", spec := "elemTurns", unfollowed := true, recurses := true, apart := false }
def ElemTurnsSaid : Prop := elemTurnsRow.holds Try.pinned (OpenSpec.ofChange elemTurnsSpec)

/-- ITS FALSE NEIGHBOUR: 'it returns false'. Refute it at one input. -/
def elemTurnsWrong : ChangeSpec := { name := "elemTurns", fn := fun _ => fun
  | [d1, d2, d3, d4] => { results := [.lit (.bool false)], args := [d1, d2, d3, d4] }
  | _ => none }
def ElemTurnsWrongFalsely : Prop := elemTurnsRow.holds Try.pinned (OpenSpec.ofChange elemTurnsWrong)

/-- 'pleachlaw27.FactsOrder': WHATEVER THE INPUT: true; the input reads as it did. -/
def factsOrderSpec : ChangeSpec := { name := "factsOrder", fn := fun _ => fun
  | [d1, d2, d3] => { results := [.lit (.bool true)], args := [d1, d2, d3] }
  | _ => none }
def factsOrderRow : OpenClaim := { program := "ythndcgaelcilnaa", sum := "a57689955b21676dd43f0733cdefb7ce4bd4f9f2e8a14b67f46d7e0dc26c6272", func := "pleach/pleachlaw27.FactsOrder", spec := "factsOrder", inPlace := ["internal/bytealg.IndexByteString", "internal/bytealg.IndexString"], named := ["internal/bytealg.MaxLen"], apart := false }
def FactsOrderSaid : Prop := factsOrderRow.holds Try.pinned (OpenSpec.ofChange factsOrderSpec)

/-- ITS FALSE NEIGHBOUR: 'it returns false'. Refute it at one input. -/
def factsOrderWrong : ChangeSpec := { name := "factsOrder", fn := fun _ => fun
  | [d1, d2, d3] => { results := [.lit (.bool false)], args := [d1, d2, d3] }
  | _ => none }
def FactsOrderWrongFalsely : Prop := factsOrderRow.holds Try.pinned (OpenSpec.ofChange factsOrderWrong)

/- THE SECOND FORM. 'bulk': how many values and letters a reading holds, each counted each time it is reached (what is shared counts as often as it is met; a slice's spare places count too). A statement '..UptoSaid' is the law's where the arguments, and the package variables that the reading takes, are together of bulk at most 1048576: NARROWER than '..Said'. Prove '..Said' where nothing that the law and all that it calls make is longer than what came in: it says more and counts as full. Else prove '..UptoSaid'. A law counts once. -/
mutual
def uptoBulk {H : Type} : DataW H → Nat
  | .lit (.string bytes) => bytes.length + 1
  | .lit _ => 1
  | .nil => 1
  | .ptr d => uptoBulk d + 1
  | .slice elems spare => uptoBulkAll elems + uptoBulkAll spare + 1
  | .agg parts => uptoBulkAll parts + 1
  | .iface _ d => uptoBulk d + 1
  | .map entries => uptoBulkEntries entries + 1
  | .held _ => 1
def uptoBulkAll {H : Type} : List (DataW H) → Nat
  | [] => 0
  | d :: r => uptoBulk d + uptoBulkAll r
def uptoBulkEntries {H : Type} : List (Lit × DataW H) → Nat
  | [] => 0
  | x :: r => uptoBulkEntry x + uptoBulkEntries r
def uptoBulkEntry {H : Type} : Lit × DataW H → Nat
  | (.string bytes, d) => bytes.length + uptoBulk d + 1
  | (_, d) => uptoBulk d + 1
 end
def uptoSmall : (H : Type) → List (DataW H) → Bool := fun _ ds => decide (uptoBulkAll ds ≤ 1048576)
def OpenSpec.upto (s : _root_.Go.ChangeSpec) : _root_.Go.OpenSpec := { _root_.Go.OpenSpec.ofChange s with cond := some uptoSmall }

/-- 'pleachlaw11.DeltaPuts', WHERE WHAT IT READS IS OF BULK AT MOST 1048576: true; the input reads as it did. -/
def deltaPutsUptoRow : OpenClaim := { program := "ythndcgaelcilnaa", sum := "a57689955b21676dd43f0733cdefb7ce4bd4f9f2e8a14b67f46d7e0dc26c6272", func := "pleach/pleachlaw11.DeltaPuts", spec := "deltaPuts", inPlace := ["internal/abi.NoEscape"], apart := false, narrowed := true }
def DeltaPutsUptoSaid : Prop := deltaPutsUptoRow.holds Try.pinned (OpenSpec.upto deltaPutsSpec)

/-- 'pleachlaw11.DeltaTakes', WHERE WHAT IT READS IS OF BULK AT MOST 1048576: true; the input reads as it did. -/
def deltaTakesUptoRow : OpenClaim := { program := "ythndcgaelcilnaa", sum := "a57689955b21676dd43f0733cdefb7ce4bd4f9f2e8a14b67f46d7e0dc26c6272", func := "pleach/pleachlaw11.DeltaTakes", spec := "deltaTakes", inPlace := ["internal/abi.NoEscape"], unfollowed := true, recurses := true, apart := false, narrowed := true }
def DeltaTakesUptoSaid : Prop := deltaTakesUptoRow.holds Try.pinned (OpenSpec.upto deltaTakesSpec)

/-- 'pleachlaw11.DeltaBack', WHERE WHAT IT READS IS OF BULK AT MOST 1048576: true; the input reads as it did. -/
def deltaBackUptoRow : OpenClaim := { program := "ythndcgaelcilnaa", sum := "a57689955b21676dd43f0733cdefb7ce4bd4f9f2e8a14b67f46d7e0dc26c6272", func := "pleach/pleachlaw11.DeltaBack", spec := "deltaBack", inPlace := ["internal/abi.NoEscape"], unfollowed := true, recurses := true, apart := false, narrowed := true }
def DeltaBackUptoSaid : Prop := deltaBackUptoRow.holds Try.pinned (OpenSpec.upto deltaBackSpec)

/-- 'pleachlaw19.ChunkTakes', WHERE WHAT IT READS IS OF BULK AT MOST 1048576: true; the input reads as it did. -/
def chunkTakesUptoRow : OpenClaim := { program := "ythndcgaelcilnaa", sum := "a57689955b21676dd43f0733cdefb7ce4bd4f9f2e8a14b67f46d7e0dc26c6272", func := "pleach/pleachlaw19.ChunkTakes", spec := "chunkTakes", inPlace := ["internal/abi.NoEscape"], unfollowed := true, recurses := true, apart := false, narrowed := true }
def ChunkTakesUptoSaid : Prop := chunkTakesUptoRow.holds Try.pinned (OpenSpec.upto chunkTakesSpec)

/-- 'pleachlaw19.ChunkTells', WHERE WHAT IT READS IS OF BULK AT MOST 1048576: true; the input reads as it did. -/
def chunkTellsUptoRow : OpenClaim := { program := "ythndcgaelcilnaa", sum := "a57689955b21676dd43f0733cdefb7ce4bd4f9f2e8a14b67f46d7e0dc26c6272", func := "pleach/pleachlaw19.ChunkTells", spec := "chunkTells", inPlace := ["internal/abi.NoEscape"], unfollowed := true, recurses := true, apart := false, narrowed := true }
def ChunkTellsUptoSaid : Prop := chunkTellsUptoRow.holds Try.pinned (OpenSpec.upto chunkTellsSpec)

/-- 'pleachlaw19.ChunkBack', WHERE WHAT IT READS IS OF BULK AT MOST 1048576: true; the input reads as it did. -/
def chunkBackUptoRow : OpenClaim := { program := "ythndcgaelcilnaa", sum := "a57689955b21676dd43f0733cdefb7ce4bd4f9f2e8a14b67f46d7e0dc26c6272", func := "pleach/pleachlaw19.ChunkBack", spec := "chunkBack", inPlace := ["internal/abi.NoEscape"], unfollowed := true, recurses := true, apart := false, narrowed := true }
def ChunkBackUptoSaid : Prop := chunkBackUptoRow.holds Try.pinned (OpenSpec.upto chunkBackSpec)

/-- 'pleachlaw25.ElemNodes', WHERE WHAT IT READS IS OF BULK AT MOST 1048576: true; the input reads as it did. -/
def elemNodesUptoRow : OpenClaim := { program := "ythndcgaelcilnaa", sum := "a57689955b21676dd43f0733cdefb7ce4bd4f9f2e8a14b67f46d7e0dc26c6272", func := "pleach/pleachlaw25.ElemNodes", spec := "elemNodes", apart := false, narrowed := true }
def ElemNodesUptoSaid : Prop := elemNodesUptoRow.holds Try.pinned (OpenSpec.upto elemNodesSpec)

/-- 'pleachlaw25.ElemEdges', WHERE WHAT IT READS IS OF BULK AT MOST 1048576: true; the input reads as it did. -/
def elemEdgesUptoRow : OpenClaim := { program := "ythndcgaelcilnaa", sum := "a57689955b21676dd43f0733cdefb7ce4bd4f9f2e8a14b67f46d7e0dc26c6272", func := "pleach/pleachlaw25.ElemEdges", spec := "elemEdges", apart := false, narrowed := true }
def ElemEdgesUptoSaid : Prop := elemEdgesUptoRow.holds Try.pinned (OpenSpec.upto elemEdgesSpec)

/-- 'pleachlaw25.ElemTakes', WHERE WHAT IT READS IS OF BULK AT MOST 1048576: true; the input reads as it did. -/
def elemTakesUptoRow : OpenClaim := { program := "ythndcgaelcilnaa", sum := "a57689955b21676dd43f0733cdefb7ce4bd4f9f2e8a14b67f46d7e0dc26c6272", func := "pleach/pleachlaw25.ElemTakes", spec := "elemTakes", unfollowed := true, recurses := true, apart := false, narrowed := true }
def ElemTakesUptoSaid : Prop := elemTakesUptoRow.holds Try.pinned (OpenSpec.upto elemTakesSpec)

/-- 'pleachlaw25.ElemBack', WHERE WHAT IT READS IS OF BULK AT MOST 1048576: true; the input reads as it did. -/
def elemBackUptoRow : OpenClaim := { program := "ythndcgaelcilnaa", sum := "a57689955b21676dd43f0733cdefb7ce4bd4f9f2e8a14b67f46d7e0dc26c6272", func := "pleach/pleachlaw25.ElemBack", spec := "elemBack", unfollowed := true, recurses := true, apart := false, narrowed := true }
def ElemBackUptoSaid : Prop := elemBackUptoRow.holds Try.pinned (OpenSpec.upto elemBackSpec)

/-- 'pleachlaw25.ElemTurns', WHERE WHAT IT READS IS OF BULK AT MOST 1048576: true; the input reads as it did. -/
def elemTurnsUptoRow : OpenClaim := { program := "ythndcgaelcilnaa", sum := "a57689955b21676dd43f0733cdefb7ce4bd4f9f2e8a14b67f46d7e0dc26c6272", func := "pleach/pleachlaw25.ElemTurns", spec := "elemTurns", unfollowed := true, recurses := true, apart := false, narrowed := true }
def ElemTurnsUptoSaid : Prop := elemTurnsUptoRow.holds Try.pinned (OpenSpec.upto elemTurnsSpec)

/-- 'pleachlaw27.FactsOrder', WHERE WHAT IT READS IS OF BULK AT MOST 1048576: true; the input reads as it did. -/
def factsOrderUptoRow : OpenClaim := { program := "ythndcgaelcilnaa", sum := "a57689955b21676dd43f0733cdefb7ce4bd4f9f2e8a14b67f46d7e0dc26c6272", func := "pleach/pleachlaw27.FactsOrder", spec := "factsOrder", inPlace := ["internal/bytealg.IndexByteString", "internal/bytealg.IndexString"], named := ["internal/bytealg.MaxLen"], apart := false, narrowed := true }
def FactsOrderUptoSaid : Prop := factsOrderUptoRow.holds Try.pinned (OpenSpec.upto factsOrderSpec)

end Rows
end Go.Proofs.Ythndcgaelcilnaa
