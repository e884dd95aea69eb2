/-
  No cell of these rows narrows 'for every input' (looked for: loops, veiled, ifaces, maps, wideKeys, modest, calm, conditions, laid).
  DERIVED. THE GIVEN ROWS OF THIS SEAT. 12 by the template 'for every input the law returns true; each argument reads behind the call as it read before'; 0 by the template 'total and deterministic' (their statements: YtbjngbacnkmjhaaTotals.lean).
  GIVEN WITH THE SEED: the statements are not yours to turn. If you find one false, say at which input.
  Laid BY PROGRAM, IN A SANDBOX (cutbox-rows.mjs): the forced cells as the released guide's own fill.sh prints them over the translation d63d3d478d6fee01… (all of the seat's roots in one cut). By AI agents, Wed Nov 11 2026. No macro, syntax, notation, axiom, sorry.
-/
import Derived.Test.YtbjngbacnkmjhaaChecked
import GoSem.Claim
import GoSem.ClaimJoined
import GoSem.ClaimMapViews
import Derived.JoinedTies
import Derived.KernelRfl
namespace Go.Proofs.Ytbjngbacnkmjhaa
/- THE CELL 'sum', in the pinned program and in every row, IS THE sha256 OF THE DUMP (.gsa) THAT YtbjngbacnkmjhaaProg.lean LOADS. Nothing in Lean hashes anything: it is a label: what it is worth is what the hold of that sum in a sandbox is worth. -/
noncomputable def Try.pinned : Pinned := { name := "ytbjngbacnkmjhaa", sum := "d63d3d478d6fee0193b64db6619debf1559153bc050696e73945a998c237e999", checked := Try.checked }
namespace Rows
def none {H : Type} : Left H := { results := [], args := [] }

/-- 'pleachlaw07.DiskPlays': WHATEVER THE INPUT: true; the input reads as it did. -/
def diskPlaysSpec : ChangeSpec := { name := "diskPlays", fn := fun _ => fun
  | [d1, d2] => { results := [.lit (.bool true)], args := [d1, d2] }
  | _ => none }
def diskPlaysRow : OpenClaim := { program := "ytbjngbacnkmjhaa", sum := "d63d3d478d6fee0193b64db6619debf1559153bc050696e73945a998c237e999", func := "pleach/pleachlaw07.DiskPlays", spec := "diskPlays", inPlace := ["internal/abi.NoEscape", "internal/bytealg.MakeNoZero"], unfollowed := true, recurses := true, apart := false }
def DiskPlaysSaid : Prop := diskPlaysRow.holds Try.pinned (OpenSpec.ofChange diskPlaysSpec)

/-- ITS FALSE NEIGHBOUR: 'it returns false'. Refute it at one input. -/
def diskPlaysWrong : ChangeSpec := { name := "diskPlays", fn := fun _ => fun
  | [d1, d2] => { results := [.lit (.bool false)], args := [d1, d2] }
  | _ => none }
def DiskPlaysWrongFalsely : Prop := diskPlaysRow.holds Try.pinned (OpenSpec.ofChange diskPlaysWrong)

/-- 'pleachlaw07.DiskLoads': WHATEVER THE INPUT: true; the input reads as it did. -/
def diskLoadsSpec : ChangeSpec := { name := "diskLoads", fn := fun _ => fun
  | [d1, d2] => { results := [.lit (.bool true)], args := [d1, d2] }
  | _ => none }
def diskLoadsRow : OpenClaim := { program := "ytbjngbacnkmjhaa", sum := "d63d3d478d6fee0193b64db6619debf1559153bc050696e73945a998c237e999", func := "pleach/pleachlaw07.DiskLoads", spec := "diskLoads", inPlace := ["internal/abi.NoEscape", "internal/bytealg.MakeNoZero"], unfollowed := true, recurses := true, apart := false }
def DiskLoadsSaid : Prop := diskLoadsRow.holds Try.pinned (OpenSpec.ofChange diskLoadsSpec)

/-- ITS FALSE NEIGHBOUR: 'it returns false'. Refute it at one input. -/
def diskLoadsWrong : ChangeSpec := { name := "diskLoads", fn := fun _ => fun
  | [d1, d2] => { results := [.lit (.bool false)], args := [d1, d2] }
  | _ => none }
def DiskLoadsWrongFalsely : Prop := diskLoadsRow.holds Try.pinned (OpenSpec.ofChange diskLoadsWrong)

/-- 'pleachlaw07.DiskSafe': WHATEVER THE INPUT: true; the input reads as it did. -/
def diskSafeSpec : ChangeSpec := { name := "diskSafe", fn := fun _ => fun
  | [d1, d2, d3] => { results := [.lit (.bool true)], args := [d1, d2, d3] }
  | _ => none }
def diskSafeRow : OpenClaim := { program := "ytbjngbacnkmjhaa", sum := "d63d3d478d6fee0193b64db6619debf1559153bc050696e73945a998c237e999", func := "pleach/pleachlaw07.DiskSafe", spec := "diskSafe", inPlace := ["internal/abi.NoEscape", "internal/bytealg.MakeNoZero"], unfollowed := true, recurses := true, apart := false }
def DiskSafeSaid : Prop := diskSafeRow.holds Try.pinned (OpenSpec.ofChange diskSafeSpec)

/-- ITS FALSE NEIGHBOUR: 'it returns false'. Refute it at one input. -/
def diskSafeWrong : ChangeSpec := { name := "diskSafe", fn := fun _ => fun
  | [d1, d2, d3] => { results := [.lit (.bool false)], args := [d1, d2, d3] }
  | _ => none }
def DiskSafeWrongFalsely : Prop := diskSafeRow.holds Try.pinned (OpenSpec.ofChange diskSafeWrong)

/-- 'pleachlaw07.DiskNobody': WHATEVER THE INPUT: true; the input reads as it did. -/
def diskNobodySpec : ChangeSpec := { name := "diskNobody", fn := fun _ => fun
  | [d1, d2] => { results := [.lit (.bool true)], args := [d1, d2] }
  | _ => none }
def diskNobodyRow : OpenClaim := { program := "ytbjngbacnkmjhaa", sum := "d63d3d478d6fee0193b64db6619debf1559153bc050696e73945a998c237e999", func := "pleach/pleachlaw07.DiskNobody", spec := "diskNobody", inPlace := ["internal/abi.NoEscape", "internal/bytealg.MakeNoZero"], unfollowed := true, recurses := true, apart := false }
def DiskNobodySaid : Prop := diskNobodyRow.holds Try.pinned (OpenSpec.ofChange diskNobodySpec)

/-- ITS FALSE NEIGHBOUR: 'it returns false'. Refute it at one input. -/
def diskNobodyWrong : ChangeSpec := { name := "diskNobody", fn := fun _ => fun
  | [d1, d2] => { results := [.lit (.bool false)], args := [d1, d2] }
  | _ => none }
def DiskNobodyWrongFalsely : Prop := diskNobodyRow.holds Try.pinned (OpenSpec.ofChange diskNobodyWrong)

/-- 'pleachlaw26.GraphChecks': WHATEVER THE INPUT: true; the input reads as it did. -/
def graphChecksSpec : ChangeSpec := { name := "graphChecks", fn := fun _ => fun
  | [d1, d2] => { results := [.lit (.bool true)], args := [d1, d2] }
  | _ => none }
def graphChecksRow : OpenClaim := { program := "ytbjngbacnkmjhaa", sum := "d63d3d478d6fee0193b64db6619debf1559153bc050696e73945a998c237e999", func := "pleach/pleachlaw26.GraphChecks", spec := "graphChecks", inPlace := ["slices.overlaps[pleach/api.Node]", "slices.overlaps[pleach/api.Edge]"], unfollowed := true, recurses := true, apart := false }
def GraphChecksSaid : Prop := graphChecksRow.holds Try.pinned (OpenSpec.ofChange graphChecksSpec)

/-- ITS FALSE NEIGHBOUR: 'it returns false'. Refute it at one input. -/
def graphChecksWrong : ChangeSpec := { name := "graphChecks", fn := fun _ => fun
  | [d1, d2] => { results := [.lit (.bool false)], args := [d1, d2] }
  | _ => none }
def GraphChecksWrongFalsely : Prop := graphChecksRow.holds Try.pinned (OpenSpec.ofChange graphChecksWrong)

/-- 'pleachlaw27.FactsOf': WHATEVER THE INPUT: true; the input reads as it did. -/
def factsOfSpec : ChangeSpec := { name := "factsOf", fn := fun _ => fun
  | [d] => { results := [.lit (.bool true)], args := [d] }
  | _ => none }
def factsOfRow : OpenClaim := { program := "ytbjngbacnkmjhaa", sum := "d63d3d478d6fee0193b64db6619debf1559153bc050696e73945a998c237e999", func := "pleach/pleachlaw27.FactsOf", spec := "factsOf", apart := false }
def FactsOfSaid : Prop := factsOfRow.holds Try.pinned (OpenSpec.ofChange factsOfSpec)

/-- ITS FALSE NEIGHBOUR: 'it returns false'. Refute it at one input. -/
def factsOfWrong : ChangeSpec := { name := "factsOf", fn := fun _ => fun
  | [d] => { results := [.lit (.bool false)], args := [d] }
  | _ => none }
def FactsOfWrongFalsely : Prop := factsOfRow.holds Try.pinned (OpenSpec.ofChange factsOfWrong)

/-- 'pleachlaw31.KeysTake': WHATEVER THE INPUT: true; the input reads as it did. -/
def keysTakeSpec : ChangeSpec := { name := "keysTake", fn := fun _ => fun
  | [d] => { results := [.lit (.bool true)], args := [d] }
  | _ => none }
def keysTakeRow : OpenClaim := { program := "ytbjngbacnkmjhaa", sum := "d63d3d478d6fee0193b64db6619debf1559153bc050696e73945a998c237e999", func := "pleach/pleachlaw31.KeysTake", spec := "keysTake", unfollowed := true, recurses := true, apart := false }
def KeysTakeSaid : Prop := keysTakeRow.holds Try.pinned (OpenSpec.ofChange keysTakeSpec)

/-- ITS FALSE NEIGHBOUR: 'it returns false'. Refute it at one input. -/
def keysTakeWrong : ChangeSpec := { name := "keysTake", fn := fun _ => fun
  | [d] => { results := [.lit (.bool false)], args := [d] }
  | _ => none }
def KeysTakeWrongFalsely : Prop := keysTakeRow.holds Try.pinned (OpenSpec.ofChange keysTakeWrong)

/-- 'pleachlaw37.RefsChecks': WHATEVER THE INPUT: true; the input reads as it did. -/
def refsChecksSpec : ChangeSpec := { name := "refsChecks", fn := fun _ => fun
  | [d] => { results := [.lit (.bool true)], args := [d] }
  | _ => none }
def refsChecksRow : OpenClaim := { program := "ytbjngbacnkmjhaa", sum := "d63d3d478d6fee0193b64db6619debf1559153bc050696e73945a998c237e999", func := "pleach/pleachlaw37.RefsChecks", spec := "refsChecks", unfollowed := true, recurses := true, apart := false }
def RefsChecksSaid : Prop := refsChecksRow.holds Try.pinned (OpenSpec.ofChange refsChecksSpec)

/-- ITS FALSE NEIGHBOUR: 'it returns false'. Refute it at one input. -/
def refsChecksWrong : ChangeSpec := { name := "refsChecks", fn := fun _ => fun
  | [d] => { results := [.lit (.bool false)], args := [d] }
  | _ => none }
def RefsChecksWrongFalsely : Prop := refsChecksRow.holds Try.pinned (OpenSpec.ofChange refsChecksWrong)

/-- 'pleachlaw37.RefsSets': WHATEVER THE INPUT: true; the input reads as it did. -/
def refsSetsSpec : ChangeSpec := { name := "refsSets", fn := fun _ => fun
  | [d1, d2, d3, d4, d5] => { results := [.lit (.bool true)], args := [d1, d2, d3, d4, d5] }
  | _ => none }
def refsSetsRow : OpenClaim := { program := "ytbjngbacnkmjhaa", sum := "d63d3d478d6fee0193b64db6619debf1559153bc050696e73945a998c237e999", func := "pleach/pleachlaw37.RefsSets", spec := "refsSets", unfollowed := true, recurses := true, apart := false }
def RefsSetsSaid : Prop := refsSetsRow.holds Try.pinned (OpenSpec.ofChange refsSetsSpec)

/-- ITS FALSE NEIGHBOUR: 'it returns false'. Refute it at one input. -/
def refsSetsWrong : ChangeSpec := { name := "refsSets", fn := fun _ => fun
  | [d1, d2, d3, d4, d5] => { results := [.lit (.bool false)], args := [d1, d2, d3, d4, d5] }
  | _ => none }
def RefsSetsWrongFalsely : Prop := refsSetsRow.holds Try.pinned (OpenSpec.ofChange refsSetsWrong)

/-- 'pleachlaw37.RefsPlays': WHATEVER THE INPUT: true; the input reads as it did. -/
def refsPlaysSpec : ChangeSpec := { name := "refsPlays", fn := fun _ => fun
  | [d1, d2] => { results := [.lit (.bool true)], args := [d1, d2] }
  | _ => none }
def refsPlaysRow : OpenClaim := { program := "ytbjngbacnkmjhaa", sum := "d63d3d478d6fee0193b64db6619debf1559153bc050696e73945a998c237e999", func := "pleach/pleachlaw37.RefsPlays", spec := "refsPlays", unfollowed := true, recurses := true, apart := false }
def RefsPlaysSaid : Prop := refsPlaysRow.holds Try.pinned (OpenSpec.ofChange refsPlaysSpec)

/-- ITS FALSE NEIGHBOUR: 'it returns false'. Refute it at one input. -/
def refsPlaysWrong : ChangeSpec := { name := "refsPlays", fn := fun _ => fun
  | [d1, d2] => { results := [.lit (.bool false)], args := [d1, d2] }
  | _ => none }
def RefsPlaysWrongFalsely : Prop := refsPlaysRow.holds Try.pinned (OpenSpec.ofChange refsPlaysWrong)

/-- 'pleachlaw37.RefsRecords': WHATEVER THE INPUT: true; the input reads as it did. -/
def refsRecordsSpec : ChangeSpec := { name := "refsRecords", fn := fun _ => fun
  | [d1, d2, d3, d4] => { results := [.lit (.bool true)], args := [d1, d2, d3, d4] }
  | _ => none }
def refsRecordsRow : OpenClaim := { program := "ytbjngbacnkmjhaa", sum := "d63d3d478d6fee0193b64db6619debf1559153bc050696e73945a998c237e999", func := "pleach/pleachlaw37.RefsRecords", spec := "refsRecords", unfollowed := true, recurses := true, apart := false }
def RefsRecordsSaid : Prop := refsRecordsRow.holds Try.pinned (OpenSpec.ofChange refsRecordsSpec)

/-- ITS FALSE NEIGHBOUR: 'it returns false'. Refute it at one input. -/
def refsRecordsWrong : ChangeSpec := { name := "refsRecords", fn := fun _ => fun
  | [d1, d2, d3, d4] => { results := [.lit (.bool false)], args := [d1, d2, d3, d4] }
  | _ => none }
def RefsRecordsWrongFalsely : Prop := refsRecordsRow.holds Try.pinned (OpenSpec.ofChange refsRecordsWrong)

/-- 'pleachlaw36.DagBack': WHATEVER THE INPUT: true; the input reads as it did. -/
def dagBackSpec : ChangeSpec := { name := "dagBack", fn := fun _ => fun
  | [d1, d2, d3] => { results := [.lit (.bool true)], args := [d1, d2, d3] }
  | _ => none }
def dagBackRow : OpenClaim := { program := "ytbjngbacnkmjhaa", sum := "d63d3d478d6fee0193b64db6619debf1559153bc050696e73945a998c237e999", func := "pleach/pleachlaw36.DagBack", spec := "dagBack", unfollowed := true, recurses := true, apart := false }
def DagBackSaid : Prop := dagBackRow.holds Try.pinned (OpenSpec.ofChange dagBackSpec)

/-- ITS FALSE NEIGHBOUR: 'it returns false'. Refute it at one input. -/
def dagBackWrong : ChangeSpec := { name := "dagBack", fn := fun _ => fun
  | [d1, d2, d3] => { results := [.lit (.bool false)], args := [d1, d2, d3] }
  | _ => none }
def DagBackWrongFalsely : Prop := dagBackRow.holds Try.pinned (OpenSpec.ofChange dagBackWrong)

/- THE SECOND FORM. 'bulk': how many values and letters a reading holds, each counted each time it is reached (what is shared counts as often as it is met; a slice's spare places count too). A statement '..UptoSaid' is the law's where the arguments, and the package variables that the reading takes, are together of bulk at most 1048576: NARROWER than '..Said'. Prove '..Said' where nothing that the law and all that it calls make is longer than what came in: it says more and counts as full. Else prove '..UptoSaid'. A law counts once. -/
mutual
def uptoBulk {H : Type} : DataW H → Nat
  | .lit (.string bytes) => bytes.length + 1
  | .lit _ => 1
  | .nil => 1
  | .ptr d => uptoBulk d + 1
  | .slice elems spare => uptoBulkAll elems + uptoBulkAll spare + 1
  | .agg parts => uptoBulkAll parts + 1
  | .iface _ d => uptoBulk d + 1
  | .map entries => uptoBulkEntries entries + 1
  | .held _ => 1
def uptoBulkAll {H : Type} : List (DataW H) → Nat
  | [] => 0
  | d :: r => uptoBulk d + uptoBulkAll r
def uptoBulkEntries {H : Type} : List (Lit × DataW H) → Nat
  | [] => 0
  | x :: r => uptoBulkEntry x + uptoBulkEntries r
def uptoBulkEntry {H : Type} : Lit × DataW H → Nat
  | (.string bytes, d) => bytes.length + uptoBulk d + 1
  | (_, d) => uptoBulk d + 1
 end
def uptoSmall : (H : Type) → List (DataW H) → Bool := fun _ ds => decide (uptoBulkAll ds ≤ 1048576)
def OpenSpec.upto (s : _root_.Go.ChangeSpec) : _root_.Go.OpenSpec := { _root_.Go.OpenSpec.ofChange s with cond := some uptoSmall }

/-- 'pleachlaw07.DiskPlays', WHERE WHAT IT READS IS OF BULK AT MOST 1048576: true; the input reads as it did. -/
def diskPlaysUptoRow : OpenClaim := { program := "ytbjngbacnkmjhaa", sum := "d63d3d478d6fee0193b64db6619debf1559153bc050696e73945a998c237e999", func := "pleach/pleachlaw07.DiskPlays", spec := "diskPlays", inPlace := ["internal/abi.NoEscape", "internal/bytealg.MakeNoZero"], unfollowed := true, recurses := true, apart := false, narrowed := true }
def DiskPlaysUptoSaid : Prop := diskPlaysUptoRow.holds Try.pinned (OpenSpec.upto diskPlaysSpec)

/-- 'pleachlaw07.DiskLoads', WHERE WHAT IT READS IS OF BULK AT MOST 1048576: true; the input reads as it did. -/
def diskLoadsUptoRow : OpenClaim := { program := "ytbjngbacnkmjhaa", sum := "d63d3d478d6fee0193b64db6619debf1559153bc050696e73945a998c237e999", func := "pleach/pleachlaw07.DiskLoads", spec := "diskLoads", inPlace := ["internal/abi.NoEscape", "internal/bytealg.MakeNoZero"], unfollowed := true, recurses := true, apart := false, narrowed := true }
def DiskLoadsUptoSaid : Prop := diskLoadsUptoRow.holds Try.pinned (OpenSpec.upto diskLoadsSpec)

/-- 'pleachlaw07.DiskSafe', WHERE WHAT IT READS IS OF BULK AT MOST 1048576: true; the input reads as it did. -/
def diskSafeUptoRow : OpenClaim := { program := "ytbjngbacnkmjhaa", sum := "d63d3d478d6fee0193b64db6619debf1559153bc050696e73945a998c237e999", func := "pleach/pleachlaw07.DiskSafe", spec := "diskSafe", inPlace := ["internal/abi.NoEscape", "internal/bytealg.MakeNoZero"], unfollowed := true, recurses := true, apart := false, narrowed := true }
def DiskSafeUptoSaid : Prop := diskSafeUptoRow.holds Try.pinned (OpenSpec.upto diskSafeSpec)

/-- 'pleachlaw07.DiskNobody', WHERE WHAT IT READS IS OF BULK AT MOST 1048576: true; the input reads as it did. -/
def diskNobodyUptoRow : OpenClaim := { program := "ytbjngbacnkmjhaa", sum := "d63d3d478d6fee0193b64db6619debf1559153bc050696e73945a998c237e999", func := "pleach/pleachlaw07.DiskNobody", spec := "diskNobody", inPlace := ["internal/abi.NoEscape", "internal/bytealg.MakeNoZero"], unfollowed := true, recurses := true, apart := false, narrowed := true }
def DiskNobodyUptoSaid : Prop := diskNobodyUptoRow.holds Try.pinned (OpenSpec.upto diskNobodySpec)

/-- 'pleachlaw26.GraphChecks', WHERE WHAT IT READS IS OF BULK AT MOST 1048576: true; the input reads as it did. -/
def graphChecksUptoRow : OpenClaim := { program := "ytbjngbacnkmjhaa", sum := "d63d3d478d6fee0193b64db6619debf1559153bc050696e73945a998c237e999", func := "pleach/pleachlaw26.GraphChecks", spec := "graphChecks", inPlace := ["slices.overlaps[pleach/api.Node]", "slices.overlaps[pleach/api.Edge]"], unfollowed := true, recurses := true, apart := false, narrowed := true }
def GraphChecksUptoSaid : Prop := graphChecksUptoRow.holds Try.pinned (OpenSpec.upto graphChecksSpec)

/-- 'pleachlaw27.FactsOf', WHERE WHAT IT READS IS OF BULK AT MOST 1048576: true; the input reads as it did. -/
def factsOfUptoRow : OpenClaim := { program := "ytbjngbacnkmjhaa", sum := "d63d3d478d6fee0193b64db6619debf1559153bc050696e73945a998c237e999", func := "pleach/pleachlaw27.FactsOf", spec := "factsOf", apart := false, narrowed := true }
def FactsOfUptoSaid : Prop := factsOfUptoRow.holds Try.pinned (OpenSpec.upto factsOfSpec)

/-- 'pleachlaw31.KeysTake', WHERE WHAT IT READS IS OF BULK AT MOST 1048576: true; the input reads as it did. -/
def keysTakeUptoRow : OpenClaim := { program := "ytbjngbacnkmjhaa", sum := "d63d3d478d6fee0193b64db6619debf1559153bc050696e73945a998c237e999", func := "pleach/pleachlaw31.KeysTake", spec := "keysTake", unfollowed := true, recurses := true, apart := false, narrowed := true }
def KeysTakeUptoSaid : Prop := keysTakeUptoRow.holds Try.pinned (OpenSpec.upto keysTakeSpec)

/-- 'pleachlaw37.RefsChecks', WHERE WHAT IT READS IS OF BULK AT MOST 1048576: true; the input reads as it did. -/
def refsChecksUptoRow : OpenClaim := { program := "ytbjngbacnkmjhaa", sum := "d63d3d478d6fee0193b64db6619debf1559153bc050696e73945a998c237e999", func := "pleach/pleachlaw37.RefsChecks", spec := "refsChecks", unfollowed := true, recurses := true, apart := false, narrowed := true }
def RefsChecksUptoSaid : Prop := refsChecksUptoRow.holds Try.pinned (OpenSpec.upto refsChecksSpec)

/-- 'pleachlaw37.RefsSets', WHERE WHAT IT READS IS OF BULK AT MOST 1048576: true; the input reads as it did. -/
def refsSetsUptoRow : OpenClaim := { program := "ytbjngbacnkmjhaa", sum := "d63d3d478d6fee0193b64db6619debf1559153bc050696e73945a998c237e999", func := "pleach/pleachlaw37.RefsSets", spec := "refsSets", unfollowed := true, recurses := true, apart := false, narrowed := true }
def RefsSetsUptoSaid : Prop := refsSetsUptoRow.holds Try.pinned (OpenSpec.upto refsSetsSpec)

/-- 'pleachlaw37.RefsPlays', WHERE WHAT IT READS IS OF BULK AT MOST 1048576: true; the input reads as it did. -/
def refsPlaysUptoRow : OpenClaim := { program := "ytbjngbacnkmjhaa", sum := "d63d3d478d6fee0193b64db6619debf1559153bc050696e73945a998c237e999", func := "pleach/pleachlaw37.RefsPlays", spec := "refsPlays", unfollowed := true, recurses := true, apart := false, narrowed := true }
def RefsPlaysUptoSaid : Prop := refsPlaysUptoRow.holds Try.pinned (OpenSpec.upto refsPlaysSpec)

/-- 'pleachlaw37.RefsRecords', WHERE WHAT IT READS IS OF BULK AT MOST 1048576: true; the input reads as it did. -/
def refsRecordsUptoRow : OpenClaim := { program := "ytbjngbacnkmjhaa", sum := "d63d3d478d6fee0193b64db6619debf1559153bc050696e73945a998c237e999", func := "pleach/pleachlaw37.RefsRecords", spec := "refsRecords", unfollowed := true, recurses := true, apart := false, narrowed := true }
def RefsRecordsUptoSaid : Prop := refsRecordsUptoRow.holds Try.pinned (OpenSpec.upto refsRecordsSpec)

/-- 'pleachlaw36.DagBack', WHERE WHAT IT READS IS OF BULK AT MOST 1048576: true; the input reads as it did. -/
def dagBackUptoRow : OpenClaim := { program := "ytbjngbacnkmjhaa", sum := "d63d3d478d6fee0193b64db6619debf1559153bc050696e73945a998c237e999", func := "pleach/pleachlaw36.DagBack", spec := "dagBack", unfollowed := true, recurses := true, apart := false, narrowed := true }
def DagBackUptoSaid : Prop := dagBackUptoRow.holds Try.pinned (OpenSpec.upto dagBackSpec)

end Rows
end Go.Proofs.Ytbjngbacnkmjhaa
