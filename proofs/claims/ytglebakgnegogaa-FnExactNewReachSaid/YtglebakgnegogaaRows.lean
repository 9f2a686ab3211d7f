/-
  No cell of these rows narrows 'for every input' (looked for: loops, veiled, ifaces, maps, wideKeys, modest, calm, conditions, laid).
  DERIVED. THE GIVEN ROWS OF THIS SEAT. 14 by the template 'for every input the law returns true; each argument reads behind the call as it read before'; 0 by the template 'total and deterministic' (their statements: YtglebakgnegogaaTotals.lean).
  GIVEN WITH THE SEED: the statements are not yours to turn. If you find one false, say at which input.
  Laid BY PROGRAM, IN A SANDBOX (cutbox-rows.mjs): the forced cells as the released guide's own fill.sh prints them over the translation 32a61a5b3d28119a… (all of the seat's roots in one cut). By AI agents, Wed Nov 11 2026. No macro, syntax, notation, axiom, sorry.
-/
import Derived.Test.YtglebakgnegogaaChecked
import GoSem.Claim
import GoSem.ClaimJoined
import GoSem.ClaimMapViews
import Derived.JoinedTies
import Derived.KernelRfl
namespace Go.Proofs.Ytglebakgnegogaa
/- THE CELL 'sum', in the pinned program and in every row, IS THE sha256 OF THE DUMP (.gsa) THAT YtglebakgnegogaaProg.lean LOADS. Nothing in Lean hashes anything: it is a label: what it is worth is what the hold of that sum in a sandbox is worth. -/
noncomputable def Try.pinned : Pinned := { name := "ytglebakgnegogaa", sum := "32a61a5b3d28119a4117ba98bedd3d67b18c2615b426fa1c7110f30dd92d24aa", checked := Try.checked }
namespace Rows
def none {H : Type} : Left H := { results := [], args := [] }

/-- 'laws.FnPassedOn': WHATEVER THE INPUT: true; the input reads as it did. -/
def fnPassedOnSpec : ChangeSpec := { name := "fnPassedOn", fn := fun _ => fun
  | [d] => { results := [.lit (.bool true)], args := [d] }
  | _ => none }
def fnPassedOnRow : OpenClaim := { program := "ytglebakgnegogaa", sum := "32a61a5b3d28119a4117ba98bedd3d67b18c2615b426fa1c7110f30dd92d24aa", func := "loop.example/g03317/laws.FnPassedOn", spec := "fnPassedOn", apart := false }
def FnPassedOnSaid : Prop := fnPassedOnRow.holds Try.pinned (OpenSpec.ofChange fnPassedOnSpec)

/-- ITS FALSE NEIGHBOUR: 'it returns false'. Refute it at one input. -/
def fnPassedOnWrong : ChangeSpec := { name := "fnPassedOn", fn := fun _ => fun
  | [d] => { results := [.lit (.bool false)], args := [d] }
  | _ => none }
def FnPassedOnWrongFalsely : Prop := fnPassedOnRow.holds Try.pinned (OpenSpec.ofChange fnPassedOnWrong)

/-- 'laws.FnPipes': WHATEVER THE INPUT: true; the input reads as it did. -/
def fnPipesSpec : ChangeSpec := { name := "fnPipes", fn := fun _ => fun
  | [d] => { results := [.lit (.bool true)], args := [d] }
  | _ => none }
def fnPipesRow : OpenClaim := { program := "ytglebakgnegogaa", sum := "32a61a5b3d28119a4117ba98bedd3d67b18c2615b426fa1c7110f30dd92d24aa", func := "loop.example/g03317/laws.FnPipes", spec := "fnPipes", unfollowed := true, recurses := true, apart := false }
def FnPipesSaid : Prop := fnPipesRow.holds Try.pinned (OpenSpec.ofChange fnPipesSpec)

/-- ITS FALSE NEIGHBOUR: 'it returns false'. Refute it at one input. -/
def fnPipesWrong : ChangeSpec := { name := "fnPipes", fn := fun _ => fun
  | [d] => { results := [.lit (.bool false)], args := [d] }
  | _ => none }
def FnPipesWrongFalsely : Prop := fnPipesRow.holds Try.pinned (OpenSpec.ofChange fnPipesWrong)

/-- 'laws.FnLevels': WHATEVER THE INPUT: true; the input reads as it did. -/
def fnLevelsSpec : ChangeSpec := { name := "fnLevels", fn := fun _ => fun
  | [d] => { results := [.lit (.bool true)], args := [d] }
  | _ => none }
def fnLevelsRow : OpenClaim := { program := "ytglebakgnegogaa", sum := "32a61a5b3d28119a4117ba98bedd3d67b18c2615b426fa1c7110f30dd92d24aa", func := "loop.example/g03317/laws.FnLevels", spec := "fnLevels", apart := false }
def FnLevelsSaid : Prop := fnLevelsRow.holds Try.pinned (OpenSpec.ofChange fnLevelsSpec)

/-- ITS FALSE NEIGHBOUR: 'it returns false'. Refute it at one input. -/
def fnLevelsWrong : ChangeSpec := { name := "fnLevels", fn := fun _ => fun
  | [d] => { results := [.lit (.bool false)], args := [d] }
  | _ => none }
def FnLevelsWrongFalsely : Prop := fnLevelsRow.holds Try.pinned (OpenSpec.ofChange fnLevelsWrong)

/-- 'laws.FnExactReachOk': WHATEVER THE INPUT: true; the input reads as it did. -/
def fnExactReachOkSpec : ChangeSpec := { name := "fnExactReachOk", fn := fun _ => fun
  | [d] => { results := [.lit (.bool true)], args := [d] }
  | _ => none }
def fnExactReachOkRow : OpenClaim := { program := "ytglebakgnegogaa", sum := "32a61a5b3d28119a4117ba98bedd3d67b18c2615b426fa1c7110f30dd92d24aa", func := "loop.example/g03317/laws.FnExactReachOk", spec := "fnExactReachOk", apart := false }
def FnExactReachOkSaid : Prop := fnExactReachOkRow.holds Try.pinned (OpenSpec.ofChange fnExactReachOkSpec)

/-- ITS FALSE NEIGHBOUR: 'it returns false'. Refute it at one input. -/
def fnExactReachOkWrong : ChangeSpec := { name := "fnExactReachOk", fn := fun _ => fun
  | [d] => { results := [.lit (.bool false)], args := [d] }
  | _ => none }
def FnExactReachOkWrongFalsely : Prop := fnExactReachOkRow.holds Try.pinned (OpenSpec.ofChange fnExactReachOkWrong)

/-- 'laws.FnExactNewReach': WHATEVER THE INPUT: true; the input reads as it did. -/
def fnExactNewReachSpec : ChangeSpec := { name := "fnExactNewReach", fn := fun _ => fun
  | [d1, d2, d3] => { results := [.lit (.bool true)], args := [d1, d2, d3] }
  | _ => none }
def fnExactNewReachRow : OpenClaim := { program := "ytglebakgnegogaa", sum := "32a61a5b3d28119a4117ba98bedd3d67b18c2615b426fa1c7110f30dd92d24aa", func := "loop.example/g03317/laws.FnExactNewReach", spec := "fnExactNewReach", apart := false }
def FnExactNewReachSaid : Prop := fnExactNewReachRow.holds Try.pinned (OpenSpec.ofChange fnExactNewReachSpec)

/-- ITS FALSE NEIGHBOUR: 'it returns false'. Refute it at one input. -/
def fnExactNewReachWrong : ChangeSpec := { name := "fnExactNewReach", fn := fun _ => fun
  | [d1, d2, d3] => { results := [.lit (.bool false)], args := [d1, d2, d3] }
  | _ => none }
def FnExactNewReachWrongFalsely : Prop := fnExactNewReachRow.holds Try.pinned (OpenSpec.ofChange fnExactNewReachWrong)

/-- 'laws.FnExactLevelOf': WHATEVER THE INPUT: true; the input reads as it did. -/
def fnExactLevelOfSpec : ChangeSpec := { name := "fnExactLevelOf", fn := fun _ => fun
  | [d] => { results := [.lit (.bool true)], args := [d] }
  | _ => none }
def fnExactLevelOfRow : OpenClaim := { program := "ytglebakgnegogaa", sum := "32a61a5b3d28119a4117ba98bedd3d67b18c2615b426fa1c7110f30dd92d24aa", func := "loop.example/g03317/laws.FnExactLevelOf", spec := "fnExactLevelOf", apart := false }
def FnExactLevelOfSaid : Prop := fnExactLevelOfRow.holds Try.pinned (OpenSpec.ofChange fnExactLevelOfSpec)

/-- ITS FALSE NEIGHBOUR: 'it returns false'. Refute it at one input. -/
def fnExactLevelOfWrong : ChangeSpec := { name := "fnExactLevelOf", fn := fun _ => fun
  | [d] => { results := [.lit (.bool false)], args := [d] }
  | _ => none }
def FnExactLevelOfWrongFalsely : Prop := fnExactLevelOfRow.holds Try.pinned (OpenSpec.ofChange fnExactLevelOfWrong)

/-- 'laws.FnExactTotalOf': WHATEVER THE INPUT: true; the input reads as it did. -/
def fnExactTotalOfSpec : ChangeSpec := { name := "fnExactTotalOf", fn := fun _ => fun
  | [d] => { results := [.lit (.bool true)], args := [d] }
  | _ => none }
def fnExactTotalOfRow : OpenClaim := { program := "ytglebakgnegogaa", sum := "32a61a5b3d28119a4117ba98bedd3d67b18c2615b426fa1c7110f30dd92d24aa", func := "loop.example/g03317/laws.FnExactTotalOf", spec := "fnExactTotalOf", apart := false }
def FnExactTotalOfSaid : Prop := fnExactTotalOfRow.holds Try.pinned (OpenSpec.ofChange fnExactTotalOfSpec)

/-- ITS FALSE NEIGHBOUR: 'it returns false'. Refute it at one input. -/
def fnExactTotalOfWrong : ChangeSpec := { name := "fnExactTotalOf", fn := fun _ => fun
  | [d] => { results := [.lit (.bool false)], args := [d] }
  | _ => none }
def FnExactTotalOfWrongFalsely : Prop := fnExactTotalOfRow.holds Try.pinned (OpenSpec.ofChange fnExactTotalOfWrong)

/-- 'laws.FnExactSpaceIn': WHATEVER THE INPUT: true; the input reads as it did. -/
def fnExactSpaceInSpec : ChangeSpec := { name := "fnExactSpaceIn", fn := fun _ => fun
  | [d] => { results := [.lit (.bool true)], args := [d] }
  | _ => none }
def fnExactSpaceInRow : OpenClaim := { program := "ytglebakgnegogaa", sum := "32a61a5b3d28119a4117ba98bedd3d67b18c2615b426fa1c7110f30dd92d24aa", func := "loop.example/g03317/laws.FnExactSpaceIn", spec := "fnExactSpaceIn", apart := false }
def FnExactSpaceInSaid : Prop := fnExactSpaceInRow.holds Try.pinned (OpenSpec.ofChange fnExactSpaceInSpec)

/-- ITS FALSE NEIGHBOUR: 'it returns false'. Refute it at one input. -/
def fnExactSpaceInWrong : ChangeSpec := { name := "fnExactSpaceIn", fn := fun _ => fun
  | [d] => { results := [.lit (.bool false)], args := [d] }
  | _ => none }
def FnExactSpaceInWrongFalsely : Prop := fnExactSpaceInRow.holds Try.pinned (OpenSpec.ofChange fnExactSpaceInWrong)

/-- 'laws.FnExactSendTo': WHATEVER THE INPUT: true; the input reads as it did. -/
def fnExactSendToSpec : ChangeSpec := { name := "fnExactSendTo", fn := fun _ => fun
  | [d1, d2] => { results := [.lit (.bool true)], args := [d1, d2] }
  | _ => none }
def fnExactSendToRow : OpenClaim := { program := "ytglebakgnegogaa", sum := "32a61a5b3d28119a4117ba98bedd3d67b18c2615b426fa1c7110f30dd92d24aa", func := "loop.example/g03317/laws.FnExactSendTo", spec := "fnExactSendTo", apart := false }
def FnExactSendToSaid : Prop := fnExactSendToRow.holds Try.pinned (OpenSpec.ofChange fnExactSendToSpec)

/-- ITS FALSE NEIGHBOUR: 'it returns false'. Refute it at one input. -/
def fnExactSendToWrong : ChangeSpec := { name := "fnExactSendTo", fn := fun _ => fun
  | [d1, d2] => { results := [.lit (.bool false)], args := [d1, d2] }
  | _ => none }
def FnExactSendToWrongFalsely : Prop := fnExactSendToRow.holds Try.pinned (OpenSpec.ofChange fnExactSendToWrong)

/-- 'laws.FnExactTakeOff': WHATEVER THE INPUT: true; the input reads as it did. -/
def fnExactTakeOffSpec : ChangeSpec := { name := "fnExactTakeOff", fn := fun _ => fun
  | [d1, d2, d3] => { results := [.lit (.bool true)], args := [d1, d2, d3] }
  | _ => none }
def fnExactTakeOffRow : OpenClaim := { program := "ytglebakgnegogaa", sum := "32a61a5b3d28119a4117ba98bedd3d67b18c2615b426fa1c7110f30dd92d24aa", func := "loop.example/g03317/laws.FnExactTakeOff", spec := "fnExactTakeOff", apart := false }
def FnExactTakeOffSaid : Prop := fnExactTakeOffRow.holds Try.pinned (OpenSpec.ofChange fnExactTakeOffSpec)

/-- ITS FALSE NEIGHBOUR: 'it returns false'. Refute it at one input. -/
def fnExactTakeOffWrong : ChangeSpec := { name := "fnExactTakeOff", fn := fun _ => fun
  | [d1, d2, d3] => { results := [.lit (.bool false)], args := [d1, d2, d3] }
  | _ => none }
def FnExactTakeOffWrongFalsely : Prop := fnExactTakeOffRow.holds Try.pinned (OpenSpec.ofChange fnExactTakeOffWrong)

/-- 'laws.FnExactPassOn': WHATEVER THE INPUT: true; the input reads as it did. -/
def fnExactPassOnSpec : ChangeSpec := { name := "fnExactPassOn", fn := fun _ => fun
  | [d1, d2, d3, d4] => { results := [.lit (.bool true)], args := [d1, d2, d3, d4] }
  | _ => none }
def fnExactPassOnRow : OpenClaim := { program := "ytglebakgnegogaa", sum := "32a61a5b3d28119a4117ba98bedd3d67b18c2615b426fa1c7110f30dd92d24aa", func := "loop.example/g03317/laws.FnExactPassOn", spec := "fnExactPassOn", apart := false }
def FnExactPassOnSaid : Prop := fnExactPassOnRow.holds Try.pinned (OpenSpec.ofChange fnExactPassOnSpec)

/-- ITS FALSE NEIGHBOUR: 'it returns false'. Refute it at one input. -/
def fnExactPassOnWrong : ChangeSpec := { name := "fnExactPassOn", fn := fun _ => fun
  | [d1, d2, d3, d4] => { results := [.lit (.bool false)], args := [d1, d2, d3, d4] }
  | _ => none }
def FnExactPassOnWrongFalsely : Prop := fnExactPassOnRow.holds Try.pinned (OpenSpec.ofChange fnExactPassOnWrong)

/-- 'laws.FnExactFlowIn': WHATEVER THE INPUT: true; the input reads as it did. -/
def fnExactFlowInSpec : ChangeSpec := { name := "fnExactFlowIn", fn := fun _ => fun
  | [d] => { results := [.lit (.bool true)], args := [d] }
  | _ => none }
def fnExactFlowInRow : OpenClaim := { program := "ytglebakgnegogaa", sum := "32a61a5b3d28119a4117ba98bedd3d67b18c2615b426fa1c7110f30dd92d24aa", func := "loop.example/g03317/laws.FnExactFlowIn", spec := "fnExactFlowIn", apart := false }
def FnExactFlowInSaid : Prop := fnExactFlowInRow.holds Try.pinned (OpenSpec.ofChange fnExactFlowInSpec)

/-- ITS FALSE NEIGHBOUR: 'it returns false'. Refute it at one input. -/
def fnExactFlowInWrong : ChangeSpec := { name := "fnExactFlowIn", fn := fun _ => fun
  | [d] => { results := [.lit (.bool false)], args := [d] }
  | _ => none }
def FnExactFlowInWrongFalsely : Prop := fnExactFlowInRow.holds Try.pinned (OpenSpec.ofChange fnExactFlowInWrong)

/-- 'laws.FnExactRiverOk': WHATEVER THE INPUT: true; the input reads as it did. -/
def fnExactRiverOkSpec : ChangeSpec := { name := "fnExactRiverOk", fn := fun _ => fun
  | [d] => { results := [.lit (.bool true)], args := [d] }
  | _ => none }
def fnExactRiverOkRow : OpenClaim := { program := "ytglebakgnegogaa", sum := "32a61a5b3d28119a4117ba98bedd3d67b18c2615b426fa1c7110f30dd92d24aa", func := "loop.example/g03317/laws.FnExactRiverOk", spec := "fnExactRiverOk", unfollowed := true, recurses := true, apart := false }
def FnExactRiverOkSaid : Prop := fnExactRiverOkRow.holds Try.pinned (OpenSpec.ofChange fnExactRiverOkSpec)

/-- ITS FALSE NEIGHBOUR: 'it returns false'. Refute it at one input. -/
def fnExactRiverOkWrong : ChangeSpec := { name := "fnExactRiverOk", fn := fun _ => fun
  | [d] => { results := [.lit (.bool false)], args := [d] }
  | _ => none }
def FnExactRiverOkWrongFalsely : Prop := fnExactRiverOkRow.holds Try.pinned (OpenSpec.ofChange fnExactRiverOkWrong)

/-- 'laws.FnExactRiverTotal': WHATEVER THE INPUT: true; the input reads as it did. -/
def fnExactRiverTotalSpec : ChangeSpec := { name := "fnExactRiverTotal", fn := fun _ => fun
  | [d] => { results := [.lit (.bool true)], args := [d] }
  | _ => none }
def fnExactRiverTotalRow : OpenClaim := { program := "ytglebakgnegogaa", sum := "32a61a5b3d28119a4117ba98bedd3d67b18c2615b426fa1c7110f30dd92d24aa", func := "loop.example/g03317/laws.FnExactRiverTotal", spec := "fnExactRiverTotal", unfollowed := true, recurses := true, apart := false }
def FnExactRiverTotalSaid : Prop := fnExactRiverTotalRow.holds Try.pinned (OpenSpec.ofChange fnExactRiverTotalSpec)

/-- ITS FALSE NEIGHBOUR: 'it returns false'. Refute it at one input. -/
def fnExactRiverTotalWrong : ChangeSpec := { name := "fnExactRiverTotal", fn := fun _ => fun
  | [d] => { results := [.lit (.bool false)], args := [d] }
  | _ => none }
def FnExactRiverTotalWrongFalsely : Prop := fnExactRiverTotalRow.holds Try.pinned (OpenSpec.ofChange fnExactRiverTotalWrong)

/- THE SECOND FORM. 'bulk': how many values and letters a reading holds, each counted each time it is reached (what is shared counts as often as it is met; a slice's spare places count too). A statement '..UptoSaid' is the law's where the arguments, and the package variables that the reading takes, are together of bulk at most 1048576: NARROWER than '..Said'. Prove '..Said' where nothing that the law and all that it calls make is longer than what came in: it says more and counts as full. Else prove '..UptoSaid'. A law counts once. -/
mutual
def uptoBulk {H : Type} : DataW H → Nat
  | .lit (.string bytes) => bytes.length + 1
  | .lit _ => 1
  | .nil => 1
  | .ptr d => uptoBulk d + 1
  | .slice elems spare => uptoBulkAll elems + uptoBulkAll spare + 1
  | .agg parts => uptoBulkAll parts + 1
  | .iface _ d => uptoBulk d + 1
  | .map entries => uptoBulkEntries entries + 1
  | .held _ => 1
def uptoBulkAll {H : Type} : List (DataW H) → Nat
  | [] => 0
  | d :: r => uptoBulk d + uptoBulkAll r
def uptoBulkEntries {H : Type} : List (Lit × DataW H) → Nat
  | [] => 0
  | x :: r => uptoBulkEntry x + uptoBulkEntries r
def uptoBulkEntry {H : Type} : Lit × DataW H → Nat
  | (.string bytes, d) => bytes.length + uptoBulk d + 1
  | (_, d) => uptoBulk d + 1
 end
def uptoSmall : (H : Type) → List (DataW H) → Bool := fun _ ds => decide (uptoBulkAll ds ≤ 1048576)
def OpenSpec.upto (s : _root_.Go.ChangeSpec) : _root_.Go.OpenSpec := { _root_.Go.OpenSpec.ofChange s with cond := some uptoSmall }

/-- 'laws.FnPassedOn', WHERE WHAT IT READS IS OF BULK AT MOST 1048576: true; the input reads as it did. -/
def fnPassedOnUptoRow : OpenClaim := { program := "ytglebakgnegogaa", sum := "32a61a5b3d28119a4117ba98bedd3d67b18c2615b426fa1c7110f30dd92d24aa", func := "loop.example/g03317/laws.FnPassedOn", spec := "fnPassedOn", apart := false, narrowed := true }
def FnPassedOnUptoSaid : Prop := fnPassedOnUptoRow.holds Try.pinned (OpenSpec.upto fnPassedOnSpec)

/-- 'laws.FnPipes', WHERE WHAT IT READS IS OF BULK AT MOST 1048576: true; the input reads as it did. -/
def fnPipesUptoRow : OpenClaim := { program := "ytglebakgnegogaa", sum := "32a61a5b3d28119a4117ba98bedd3d67b18c2615b426fa1c7110f30dd92d24aa", func := "loop.example/g03317/laws.FnPipes", spec := "fnPipes", unfollowed := true, recurses := true, apart := false, narrowed := true }
def FnPipesUptoSaid : Prop := fnPipesUptoRow.holds Try.pinned (OpenSpec.upto fnPipesSpec)

/-- 'laws.FnLevels', WHERE WHAT IT READS IS OF BULK AT MOST 1048576: true; the input reads as it did. -/
def fnLevelsUptoRow : OpenClaim := { program := "ytglebakgnegogaa", sum := "32a61a5b3d28119a4117ba98bedd3d67b18c2615b426fa1c7110f30dd92d24aa", func := "loop.example/g03317/laws.FnLevels", spec := "fnLevels", apart := false, narrowed := true }
def FnLevelsUptoSaid : Prop := fnLevelsUptoRow.holds Try.pinned (OpenSpec.upto fnLevelsSpec)

/-- 'laws.FnExactReachOk', WHERE WHAT IT READS IS OF BULK AT MOST 1048576: true; the input reads as it did. -/
def fnExactReachOkUptoRow : OpenClaim := { program := "ytglebakgnegogaa", sum := "32a61a5b3d28119a4117ba98bedd3d67b18c2615b426fa1c7110f30dd92d24aa", func := "loop.example/g03317/laws.FnExactReachOk", spec := "fnExactReachOk", apart := false, narrowed := true }
def FnExactReachOkUptoSaid : Prop := fnExactReachOkUptoRow.holds Try.pinned (OpenSpec.upto fnExactReachOkSpec)

/-- 'laws.FnExactNewReach', WHERE WHAT IT READS IS OF BULK AT MOST 1048576: true; the input reads as it did. -/
def fnExactNewReachUptoRow : OpenClaim := { program := "ytglebakgnegogaa", sum := "32a61a5b3d28119a4117ba98bedd3d67b18c2615b426fa1c7110f30dd92d24aa", func := "loop.example/g03317/laws.FnExactNewReach", spec := "fnExactNewReach", apart := false, narrowed := true }
def FnExactNewReachUptoSaid : Prop := fnExactNewReachUptoRow.holds Try.pinned (OpenSpec.upto fnExactNewReachSpec)

/-- 'laws.FnExactLevelOf', WHERE WHAT IT READS IS OF BULK AT MOST 1048576: true; the input reads as it did. -/
def fnExactLevelOfUptoRow : OpenClaim := { program := "ytglebakgnegogaa", sum := "32a61a5b3d28119a4117ba98bedd3d67b18c2615b426fa1c7110f30dd92d24aa", func := "loop.example/g03317/laws.FnExactLevelOf", spec := "fnExactLevelOf", apart := false, narrowed := true }
def FnExactLevelOfUptoSaid : Prop := fnExactLevelOfUptoRow.holds Try.pinned (OpenSpec.upto fnExactLevelOfSpec)

/-- 'laws.FnExactTotalOf', WHERE WHAT IT READS IS OF BULK AT MOST 1048576: true; the input reads as it did. -/
def fnExactTotalOfUptoRow : OpenClaim := { program := "ytglebakgnegogaa", sum := "32a61a5b3d28119a4117ba98bedd3d67b18c2615b426fa1c7110f30dd92d24aa", func := "loop.example/g03317/laws.FnExactTotalOf", spec := "fnExactTotalOf", apart := false, narrowed := true }
def FnExactTotalOfUptoSaid : Prop := fnExactTotalOfUptoRow.holds Try.pinned (OpenSpec.upto fnExactTotalOfSpec)

/-- 'laws.FnExactSpaceIn', WHERE WHAT IT READS IS OF BULK AT MOST 1048576: true; the input reads as it did. -/
def fnExactSpaceInUptoRow : OpenClaim := { program := "ytglebakgnegogaa", sum := "32a61a5b3d28119a4117ba98bedd3d67b18c2615b426fa1c7110f30dd92d24aa", func := "loop.example/g03317/laws.FnExactSpaceIn", spec := "fnExactSpaceIn", apart := false, narrowed := true }
def FnExactSpaceInUptoSaid : Prop := fnExactSpaceInUptoRow.holds Try.pinned (OpenSpec.upto fnExactSpaceInSpec)

/-- 'laws.FnExactSendTo', WHERE WHAT IT READS IS OF BULK AT MOST 1048576: true; the input reads as it did. -/
def fnExactSendToUptoRow : OpenClaim := { program := "ytglebakgnegogaa", sum := "32a61a5b3d28119a4117ba98bedd3d67b18c2615b426fa1c7110f30dd92d24aa", func := "loop.example/g03317/laws.FnExactSendTo", spec := "fnExactSendTo", apart := false, narrowed := true }
def FnExactSendToUptoSaid : Prop := fnExactSendToUptoRow.holds Try.pinned (OpenSpec.upto fnExactSendToSpec)

/-- 'laws.FnExactTakeOff', WHERE WHAT IT READS IS OF BULK AT MOST 1048576: true; the input reads as it did. -/
def fnExactTakeOffUptoRow : OpenClaim := { program := "ytglebakgnegogaa", sum := "32a61a5b3d28119a4117ba98bedd3d67b18c2615b426fa1c7110f30dd92d24aa", func := "loop.example/g03317/laws.FnExactTakeOff", spec := "fnExactTakeOff", apart := false, narrowed := true }
def FnExactTakeOffUptoSaid : Prop := fnExactTakeOffUptoRow.holds Try.pinned (OpenSpec.upto fnExactTakeOffSpec)

/-- 'laws.FnExactPassOn', WHERE WHAT IT READS IS OF BULK AT MOST 1048576: true; the input reads as it did. -/
def fnExactPassOnUptoRow : OpenClaim := { program := "ytglebakgnegogaa", sum := "32a61a5b3d28119a4117ba98bedd3d67b18c2615b426fa1c7110f30dd92d24aa", func := "loop.example/g03317/laws.FnExactPassOn", spec := "fnExactPassOn", apart := false, narrowed := true }
def FnExactPassOnUptoSaid : Prop := fnExactPassOnUptoRow.holds Try.pinned (OpenSpec.upto fnExactPassOnSpec)

/-- 'laws.FnExactFlowIn', WHERE WHAT IT READS IS OF BULK AT MOST 1048576: true; the input reads as it did. -/
def fnExactFlowInUptoRow : OpenClaim := { program := "ytglebakgnegogaa", sum := "32a61a5b3d28119a4117ba98bedd3d67b18c2615b426fa1c7110f30dd92d24aa", func := "loop.example/g03317/laws.FnExactFlowIn", spec := "fnExactFlowIn", apart := false, narrowed := true }
def FnExactFlowInUptoSaid : Prop := fnExactFlowInUptoRow.holds Try.pinned (OpenSpec.upto fnExactFlowInSpec)

/-- 'laws.FnExactRiverOk', WHERE WHAT IT READS IS OF BULK AT MOST 1048576: true; the input reads as it did. -/
def fnExactRiverOkUptoRow : OpenClaim := { program := "ytglebakgnegogaa", sum := "32a61a5b3d28119a4117ba98bedd3d67b18c2615b426fa1c7110f30dd92d24aa", func := "loop.example/g03317/laws.FnExactRiverOk", spec := "fnExactRiverOk", unfollowed := true, recurses := true, apart := false, narrowed := true }
def FnExactRiverOkUptoSaid : Prop := fnExactRiverOkUptoRow.holds Try.pinned (OpenSpec.upto fnExactRiverOkSpec)

/-- 'laws.FnExactRiverTotal', WHERE WHAT IT READS IS OF BULK AT MOST 1048576: true; the input reads as it did. -/
def fnExactRiverTotalUptoRow : OpenClaim := { program := "ytglebakgnegogaa", sum := "32a61a5b3d28119a4117ba98bedd3d67b18c2615b426fa1c7110f30dd92d24aa", func := "loop.example/g03317/laws.FnExactRiverTotal", spec := "fnExactRiverTotal", unfollowed := true, recurses := true, apart := false, narrowed := true }
def FnExactRiverTotalUptoSaid : Prop := fnExactRiverTotalUptoRow.holds Try.pinned (OpenSpec.upto fnExactRiverTotalSpec)

end Rows
end Go.Proofs.Ytglebakgnegogaa
