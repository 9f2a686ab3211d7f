/-
  No cell of these rows narrows 'for every input' (looked for: loops, veiled, ifaces, maps, wideKeys, modest, calm, conditions, laid).
  DERIVED. THE GIVEN ROWS OF THIS SEAT. 15 by the template 'for every input the law returns true; each argument reads behind the call as it read before'; 0 by the template 'total and deterministic' (their statements: YtolifdpbkdeeeaaTotals.lean).
  GIVEN WITH THE SEED: the statements are not yours to turn. If you find one false, say at which input.
  Laid BY PROGRAM, IN A SANDBOX (cutbox-rows.mjs): the forced cells as the released guide's own fill.sh prints them over the translation 9c5379c5ff62fe11… (all of the seat's roots in one cut). By AI agents, Wed Nov 11 2026. No macro, syntax, notation, axiom, sorry.
-/
import Derived.Test.YtolifdpbkdeeeaaChecked
import GoSem.Claim
import GoSem.ClaimJoined
import GoSem.ClaimMapViews
import Derived.JoinedTies
import Derived.KernelRfl
namespace Go.Proofs.Ytolifdpbkdeeeaa
/- THE CELL 'sum', in the pinned program and in every row, IS THE sha256 OF THE DUMP (.gsa) THAT YtolifdpbkdeeeaaProg.lean LOADS. Nothing in Lean hashes anything: it is a label: what it is worth is what the hold of that sum in a sandbox is worth. -/
noncomputable def Try.pinned : Pinned := { name := "ytolifdpbkdeeeaa", sum := "9c5379c5ff62fe112dc04cbfdbca00ebd8c9187bb9fbd43d855296fa7fc8af9f", checked := Try.checked }
namespace Rows
def none {H : Type} : Left H := { results := [], args := [] }

/-- 'laws.FnPassedOn': WHATEVER THE INPUT: true; the input reads as it did. -/
def fnPassedOnSpec : ChangeSpec := { name := "fnPassedOn", fn := fun _ => fun
  | [d] => { results := [.lit (.bool true)], args := [d] }
  | _ => none }
def fnPassedOnRow : OpenClaim := { program := "ytolifdpbkdeeeaa", sum := "9c5379c5ff62fe112dc04cbfdbca00ebd8c9187bb9fbd43d855296fa7fc8af9f", func := "loop.example/g03317/laws.FnPassedOn", spec := "fnPassedOn", apart := false }
def FnPassedOnSaid : Prop := fnPassedOnRow.holds Try.pinned (OpenSpec.ofChange fnPassedOnSpec)

/-- ITS FALSE NEIGHBOUR: 'it returns false'. Refute it at one input. -/
def fnPassedOnWrong : ChangeSpec := { name := "fnPassedOn", fn := fun _ => fun
  | [d] => { results := [.lit (.bool false)], args := [d] }
  | _ => none }
def FnPassedOnWrongFalsely : Prop := fnPassedOnRow.holds Try.pinned (OpenSpec.ofChange fnPassedOnWrong)

/-- 'laws.FnPipes': WHATEVER THE INPUT: true; the input reads as it did. -/
def fnPipesSpec : ChangeSpec := { name := "fnPipes", fn := fun _ => fun
  | [d] => { results := [.lit (.bool true)], args := [d] }
  | _ => none }
def fnPipesRow : OpenClaim := { program := "ytolifdpbkdeeeaa", sum := "9c5379c5ff62fe112dc04cbfdbca00ebd8c9187bb9fbd43d855296fa7fc8af9f", func := "loop.example/g03317/laws.FnPipes", spec := "fnPipes", unfollowed := true, recurses := true, apart := false }
def FnPipesSaid : Prop := fnPipesRow.holds Try.pinned (OpenSpec.ofChange fnPipesSpec)

/-- ITS FALSE NEIGHBOUR: 'it returns false'. Refute it at one input. -/
def fnPipesWrong : ChangeSpec := { name := "fnPipes", fn := fun _ => fun
  | [d] => { results := [.lit (.bool false)], args := [d] }
  | _ => none }
def FnPipesWrongFalsely : Prop := fnPipesRow.holds Try.pinned (OpenSpec.ofChange fnPipesWrong)

/-- 'laws.FnLevels': WHATEVER THE INPUT: true; the input reads as it did. -/
def fnLevelsSpec : ChangeSpec := { name := "fnLevels", fn := fun _ => fun
  | [d] => { results := [.lit (.bool true)], args := [d] }
  | _ => none }
def fnLevelsRow : OpenClaim := { program := "ytolifdpbkdeeeaa", sum := "9c5379c5ff62fe112dc04cbfdbca00ebd8c9187bb9fbd43d855296fa7fc8af9f", func := "loop.example/g03317/laws.FnLevels", spec := "fnLevels", apart := false }
def FnLevelsSaid : Prop := fnLevelsRow.holds Try.pinned (OpenSpec.ofChange fnLevelsSpec)

/-- ITS FALSE NEIGHBOUR: 'it returns false'. Refute it at one input. -/
def fnLevelsWrong : ChangeSpec := { name := "fnLevels", fn := fun _ => fun
  | [d] => { results := [.lit (.bool false)], args := [d] }
  | _ => none }
def FnLevelsWrongFalsely : Prop := fnLevelsRow.holds Try.pinned (OpenSpec.ofChange fnLevelsWrong)

/-- 'laws.FnGates': WHATEVER THE INPUT: true; the input reads as it did. -/
def fnGatesSpec : ChangeSpec := { name := "fnGates", fn := fun _ => fun
  | [d] => { results := [.lit (.bool true)], args := [d] }
  | _ => none }
def fnGatesRow : OpenClaim := { program := "ytolifdpbkdeeeaa", sum := "9c5379c5ff62fe112dc04cbfdbca00ebd8c9187bb9fbd43d855296fa7fc8af9f", func := "loop.example/g03317/laws.FnGates", spec := "fnGates", unfollowed := true, recurses := true, apart := false }
def FnGatesSaid : Prop := fnGatesRow.holds Try.pinned (OpenSpec.ofChange fnGatesSpec)

/-- ITS FALSE NEIGHBOUR: 'it returns false'. Refute it at one input. -/
def fnGatesWrong : ChangeSpec := { name := "fnGates", fn := fun _ => fun
  | [d] => { results := [.lit (.bool false)], args := [d] }
  | _ => none }
def FnGatesWrongFalsely : Prop := fnGatesRow.holds Try.pinned (OpenSpec.ofChange fnGatesWrong)

/-- 'laws.FnGateSteps': WHATEVER THE INPUT: true; the input reads as it did. -/
def fnGateStepsSpec : ChangeSpec := { name := "fnGateSteps", fn := fun _ => fun
  | [d] => { results := [.lit (.bool true)], args := [d] }
  | _ => none }
def fnGateStepsRow : OpenClaim := { program := "ytolifdpbkdeeeaa", sum := "9c5379c5ff62fe112dc04cbfdbca00ebd8c9187bb9fbd43d855296fa7fc8af9f", func := "loop.example/g03317/laws.FnGateSteps", spec := "fnGateSteps", unfollowed := true, recurses := true, apart := false }
def FnGateStepsSaid : Prop := fnGateStepsRow.holds Try.pinned (OpenSpec.ofChange fnGateStepsSpec)

/-- ITS FALSE NEIGHBOUR: 'it returns false'. Refute it at one input. -/
def fnGateStepsWrong : ChangeSpec := { name := "fnGateSteps", fn := fun _ => fun
  | [d] => { results := [.lit (.bool false)], args := [d] }
  | _ => none }
def FnGateStepsWrongFalsely : Prop := fnGateStepsRow.holds Try.pinned (OpenSpec.ofChange fnGateStepsWrong)

/-- 'laws.FnLetThrough': WHATEVER THE INPUT: true; the input reads as it did. -/
def fnLetThroughSpec : ChangeSpec := { name := "fnLetThrough", fn := fun _ => fun
  | [d] => { results := [.lit (.bool true)], args := [d] }
  | _ => none }
def fnLetThroughRow : OpenClaim := { program := "ytolifdpbkdeeeaa", sum := "9c5379c5ff62fe112dc04cbfdbca00ebd8c9187bb9fbd43d855296fa7fc8af9f", func := "loop.example/g03317/laws.FnLetThrough", spec := "fnLetThrough", unfollowed := true, recurses := true, apart := false }
def FnLetThroughSaid : Prop := fnLetThroughRow.holds Try.pinned (OpenSpec.ofChange fnLetThroughSpec)

/-- ITS FALSE NEIGHBOUR: 'it returns false'. Refute it at one input. -/
def fnLetThroughWrong : ChangeSpec := { name := "fnLetThrough", fn := fun _ => fun
  | [d] => { results := [.lit (.bool false)], args := [d] }
  | _ => none }
def FnLetThroughWrongFalsely : Prop := fnLetThroughRow.holds Try.pinned (OpenSpec.ofChange fnLetThroughWrong)

/-- 'laws.FnExactPassOn': WHATEVER THE INPUT: true; the input reads as it did. -/
def fnExactPassOnSpec : ChangeSpec := { name := "fnExactPassOn", fn := fun _ => fun
  | [d1, d2, d3, d4] => { results := [.lit (.bool true)], args := [d1, d2, d3, d4] }
  | _ => none }
def fnExactPassOnRow : OpenClaim := { program := "ytolifdpbkdeeeaa", sum := "9c5379c5ff62fe112dc04cbfdbca00ebd8c9187bb9fbd43d855296fa7fc8af9f", func := "loop.example/g03317/laws.FnExactPassOn", spec := "fnExactPassOn", apart := false }
def FnExactPassOnSaid : Prop := fnExactPassOnRow.holds Try.pinned (OpenSpec.ofChange fnExactPassOnSpec)

/-- ITS FALSE NEIGHBOUR: 'it returns false'. Refute it at one input. -/
def fnExactPassOnWrong : ChangeSpec := { name := "fnExactPassOn", fn := fun _ => fun
  | [d1, d2, d3, d4] => { results := [.lit (.bool false)], args := [d1, d2, d3, d4] }
  | _ => none }
def FnExactPassOnWrongFalsely : Prop := fnExactPassOnRow.holds Try.pinned (OpenSpec.ofChange fnExactPassOnWrong)

/-- 'laws.FnExactWeirOk': WHATEVER THE INPUT: true; the input reads as it did. -/
def fnExactWeirOkSpec : ChangeSpec := { name := "fnExactWeirOk", fn := fun _ => fun
  | [d] => { results := [.lit (.bool true)], args := [d] }
  | _ => none }
def fnExactWeirOkRow : OpenClaim := { program := "ytolifdpbkdeeeaa", sum := "9c5379c5ff62fe112dc04cbfdbca00ebd8c9187bb9fbd43d855296fa7fc8af9f", func := "loop.example/g03317/laws.FnExactWeirOk", spec := "fnExactWeirOk", apart := false }
def FnExactWeirOkSaid : Prop := fnExactWeirOkRow.holds Try.pinned (OpenSpec.ofChange fnExactWeirOkSpec)

/-- ITS FALSE NEIGHBOUR: 'it returns false'. Refute it at one input. -/
def fnExactWeirOkWrong : ChangeSpec := { name := "fnExactWeirOk", fn := fun _ => fun
  | [d] => { results := [.lit (.bool false)], args := [d] }
  | _ => none }
def FnExactWeirOkWrongFalsely : Prop := fnExactWeirOkRow.holds Try.pinned (OpenSpec.ofChange fnExactWeirOkWrong)

/-- 'laws.FnExactGateFlow': WHATEVER THE INPUT: true; the input reads as it did. -/
def fnExactGateFlowSpec : ChangeSpec := { name := "fnExactGateFlow", fn := fun _ => fun
  | [d1, d2, d3] => { results := [.lit (.bool true)], args := [d1, d2, d3] }
  | _ => none }
def fnExactGateFlowRow : OpenClaim := { program := "ytolifdpbkdeeeaa", sum := "9c5379c5ff62fe112dc04cbfdbca00ebd8c9187bb9fbd43d855296fa7fc8af9f", func := "loop.example/g03317/laws.FnExactGateFlow", spec := "fnExactGateFlow", unfollowed := true, recurses := true, apart := false }
def FnExactGateFlowSaid : Prop := fnExactGateFlowRow.holds Try.pinned (OpenSpec.ofChange fnExactGateFlowSpec)

/-- ITS FALSE NEIGHBOUR: 'it returns false'. Refute it at one input. -/
def fnExactGateFlowWrong : ChangeSpec := { name := "fnExactGateFlow", fn := fun _ => fun
  | [d1, d2, d3] => { results := [.lit (.bool false)], args := [d1, d2, d3] }
  | _ => none }
def FnExactGateFlowWrongFalsely : Prop := fnExactGateFlowRow.holds Try.pinned (OpenSpec.ofChange fnExactGateFlowWrong)

/-- 'laws.FnExactMoveGate': WHATEVER THE INPUT: true; the input reads as it did. -/
def fnExactMoveGateSpec : ChangeSpec := { name := "fnExactMoveGate", fn := fun _ => fun
  | [d1, d2] => { results := [.lit (.bool true)], args := [d1, d2] }
  | _ => none }
def fnExactMoveGateRow : OpenClaim := { program := "ytolifdpbkdeeeaa", sum := "9c5379c5ff62fe112dc04cbfdbca00ebd8c9187bb9fbd43d855296fa7fc8af9f", func := "loop.example/g03317/laws.FnExactMoveGate", spec := "fnExactMoveGate", apart := false }
def FnExactMoveGateSaid : Prop := fnExactMoveGateRow.holds Try.pinned (OpenSpec.ofChange fnExactMoveGateSpec)

/-- ITS FALSE NEIGHBOUR: 'it returns false'. Refute it at one input. -/
def fnExactMoveGateWrong : ChangeSpec := { name := "fnExactMoveGate", fn := fun _ => fun
  | [d1, d2] => { results := [.lit (.bool false)], args := [d1, d2] }
  | _ => none }
def FnExactMoveGateWrongFalsely : Prop := fnExactMoveGateRow.holds Try.pinned (OpenSpec.ofChange fnExactMoveGateWrong)

/-- 'laws.FnExactOpenFor': WHATEVER THE INPUT: true; the input reads as it did. -/
def fnExactOpenForSpec : ChangeSpec := { name := "fnExactOpenFor", fn := fun _ => fun
  | [d1, d2, d3, d4] => { results := [.lit (.bool true)], args := [d1, d2, d3, d4] }
  | _ => none }
def fnExactOpenForRow : OpenClaim := { program := "ytolifdpbkdeeeaa", sum := "9c5379c5ff62fe112dc04cbfdbca00ebd8c9187bb9fbd43d855296fa7fc8af9f", func := "loop.example/g03317/laws.FnExactOpenFor", spec := "fnExactOpenFor", unfollowed := true, recurses := true, apart := false }
def FnExactOpenForSaid : Prop := fnExactOpenForRow.holds Try.pinned (OpenSpec.ofChange fnExactOpenForSpec)

/-- ITS FALSE NEIGHBOUR: 'it returns false'. Refute it at one input. -/
def fnExactOpenForWrong : ChangeSpec := { name := "fnExactOpenFor", fn := fun _ => fun
  | [d1, d2, d3, d4] => { results := [.lit (.bool false)], args := [d1, d2, d3, d4] }
  | _ => none }
def FnExactOpenForWrongFalsely : Prop := fnExactOpenForRow.holds Try.pinned (OpenSpec.ofChange fnExactOpenForWrong)

/-- 'laws.FnExactRuleOk': WHATEVER THE INPUT: true; the input reads as it did. -/
def fnExactRuleOkSpec : ChangeSpec := { name := "fnExactRuleOk", fn := fun _ => fun
  | [d] => { results := [.lit (.bool true)], args := [d] }
  | _ => none }
def fnExactRuleOkRow : OpenClaim := { program := "ytolifdpbkdeeeaa", sum := "9c5379c5ff62fe112dc04cbfdbca00ebd8c9187bb9fbd43d855296fa7fc8af9f", func := "loop.example/g03317/laws.FnExactRuleOk", spec := "fnExactRuleOk", apart := false }
def FnExactRuleOkSaid : Prop := fnExactRuleOkRow.holds Try.pinned (OpenSpec.ofChange fnExactRuleOkSpec)

/-- ITS FALSE NEIGHBOUR: 'it returns false'. Refute it at one input. -/
def fnExactRuleOkWrong : ChangeSpec := { name := "fnExactRuleOk", fn := fun _ => fun
  | [d] => { results := [.lit (.bool false)], args := [d] }
  | _ => none }
def FnExactRuleOkWrongFalsely : Prop := fnExactRuleOkRow.holds Try.pinned (OpenSpec.ofChange fnExactRuleOkWrong)

/-- 'laws.FnExactWantedFlow': WHATEVER THE INPUT: true; the input reads as it did. -/
def fnExactWantedFlowSpec : ChangeSpec := { name := "fnExactWantedFlow", fn := fun _ => fun
  | [d1, d2, d3] => { results := [.lit (.bool true)], args := [d1, d2, d3] }
  | _ => none }
def fnExactWantedFlowRow : OpenClaim := { program := "ytolifdpbkdeeeaa", sum := "9c5379c5ff62fe112dc04cbfdbca00ebd8c9187bb9fbd43d855296fa7fc8af9f", func := "loop.example/g03317/laws.FnExactWantedFlow", spec := "fnExactWantedFlow", unfollowed := true, recurses := true, apart := false }
def FnExactWantedFlowSaid : Prop := fnExactWantedFlowRow.holds Try.pinned (OpenSpec.ofChange fnExactWantedFlowSpec)

/-- ITS FALSE NEIGHBOUR: 'it returns false'. Refute it at one input. -/
def fnExactWantedFlowWrong : ChangeSpec := { name := "fnExactWantedFlow", fn := fun _ => fun
  | [d1, d2, d3] => { results := [.lit (.bool false)], args := [d1, d2, d3] }
  | _ => none }
def FnExactWantedFlowWrongFalsely : Prop := fnExactWantedFlowRow.holds Try.pinned (OpenSpec.ofChange fnExactWantedFlowWrong)

/-- 'laws.FnExactSteerWeir': WHATEVER THE INPUT: true; the input reads as it did. -/
def fnExactSteerWeirSpec : ChangeSpec := { name := "fnExactSteerWeir", fn := fun _ => fun
  | [d1, d2, d3, d4, d5] => { results := [.lit (.bool true)], args := [d1, d2, d3, d4, d5] }
  | _ => none }
def fnExactSteerWeirRow : OpenClaim := { program := "ytolifdpbkdeeeaa", sum := "9c5379c5ff62fe112dc04cbfdbca00ebd8c9187bb9fbd43d855296fa7fc8af9f", func := "loop.example/g03317/laws.FnExactSteerWeir", spec := "fnExactSteerWeir", unfollowed := true, recurses := true, apart := false }
def FnExactSteerWeirSaid : Prop := fnExactSteerWeirRow.holds Try.pinned (OpenSpec.ofChange fnExactSteerWeirSpec)

/-- ITS FALSE NEIGHBOUR: 'it returns false'. Refute it at one input. -/
def fnExactSteerWeirWrong : ChangeSpec := { name := "fnExactSteerWeir", fn := fun _ => fun
  | [d1, d2, d3, d4, d5] => { results := [.lit (.bool false)], args := [d1, d2, d3, d4, d5] }
  | _ => none }
def FnExactSteerWeirWrongFalsely : Prop := fnExactSteerWeirRow.holds Try.pinned (OpenSpec.ofChange fnExactSteerWeirWrong)

/-- 'laws.FnExactLetThrough': WHATEVER THE INPUT: true; the input reads as it did. -/
def fnExactLetThroughSpec : ChangeSpec := { name := "fnExactLetThrough", fn := fun _ => fun
  | [d1, d2, d3] => { results := [.lit (.bool true)], args := [d1, d2, d3] }
  | _ => none }
def fnExactLetThroughRow : OpenClaim := { program := "ytolifdpbkdeeeaa", sum := "9c5379c5ff62fe112dc04cbfdbca00ebd8c9187bb9fbd43d855296fa7fc8af9f", func := "loop.example/g03317/laws.FnExactLetThrough", spec := "fnExactLetThrough", unfollowed := true, recurses := true, apart := false }
def FnExactLetThroughSaid : Prop := fnExactLetThroughRow.holds Try.pinned (OpenSpec.ofChange fnExactLetThroughSpec)

/-- ITS FALSE NEIGHBOUR: 'it returns false'. Refute it at one input. -/
def fnExactLetThroughWrong : ChangeSpec := { name := "fnExactLetThrough", fn := fun _ => fun
  | [d1, d2, d3] => { results := [.lit (.bool false)], args := [d1, d2, d3] }
  | _ => none }
def FnExactLetThroughWrongFalsely : Prop := fnExactLetThroughRow.holds Try.pinned (OpenSpec.ofChange fnExactLetThroughWrong)

/- THE SECOND FORM. 'bulk': how many values and letters a reading holds, each counted each time it is reached (what is shared counts as often as it is met; a slice's spare places count too). A statement '..UptoSaid' is the law's where the arguments, and the package variables that the reading takes, are together of bulk at most 1048576: NARROWER than '..Said'. Prove '..Said' where nothing that the law and all that it calls make is longer than what came in: it says more and counts as full. Else prove '..UptoSaid'. A law counts once. -/
mutual
def uptoBulk {H : Type} : DataW H → Nat
  | .lit (.string bytes) => bytes.length + 1
  | .lit _ => 1
  | .nil => 1
  | .ptr d => uptoBulk d + 1
  | .slice elems spare => uptoBulkAll elems + uptoBulkAll spare + 1
  | .agg parts => uptoBulkAll parts + 1
  | .iface _ d => uptoBulk d + 1
  | .map entries => uptoBulkEntries entries + 1
  | .held _ => 1
def uptoBulkAll {H : Type} : List (DataW H) → Nat
  | [] => 0
  | d :: r => uptoBulk d + uptoBulkAll r
def uptoBulkEntries {H : Type} : List (Lit × DataW H) → Nat
  | [] => 0
  | x :: r => uptoBulkEntry x + uptoBulkEntries r
def uptoBulkEntry {H : Type} : Lit × DataW H → Nat
  | (.string bytes, d) => bytes.length + uptoBulk d + 1
  | (_, d) => uptoBulk d + 1
 end
def uptoSmall : (H : Type) → List (DataW H) → Bool := fun _ ds => decide (uptoBulkAll ds ≤ 1048576)
def OpenSpec.upto (s : _root_.Go.ChangeSpec) : _root_.Go.OpenSpec := { _root_.Go.OpenSpec.ofChange s with cond := some uptoSmall }

/-- 'laws.FnPassedOn', WHERE WHAT IT READS IS OF BULK AT MOST 1048576: true; the input reads as it did. -/
def fnPassedOnUptoRow : OpenClaim := { program := "ytolifdpbkdeeeaa", sum := "9c5379c5ff62fe112dc04cbfdbca00ebd8c9187bb9fbd43d855296fa7fc8af9f", func := "loop.example/g03317/laws.FnPassedOn", spec := "fnPassedOn", apart := false, narrowed := true }
def FnPassedOnUptoSaid : Prop := fnPassedOnUptoRow.holds Try.pinned (OpenSpec.upto fnPassedOnSpec)

/-- 'laws.FnPipes', WHERE WHAT IT READS IS OF BULK AT MOST 1048576: true; the input reads as it did. -/
def fnPipesUptoRow : OpenClaim := { program := "ytolifdpbkdeeeaa", sum := "9c5379c5ff62fe112dc04cbfdbca00ebd8c9187bb9fbd43d855296fa7fc8af9f", func := "loop.example/g03317/laws.FnPipes", spec := "fnPipes", unfollowed := true, recurses := true, apart := false, narrowed := true }
def FnPipesUptoSaid : Prop := fnPipesUptoRow.holds Try.pinned (OpenSpec.upto fnPipesSpec)

/-- 'laws.FnLevels', WHERE WHAT IT READS IS OF BULK AT MOST 1048576: true; the input reads as it did. -/
def fnLevelsUptoRow : OpenClaim := { program := "ytolifdpbkdeeeaa", sum := "9c5379c5ff62fe112dc04cbfdbca00ebd8c9187bb9fbd43d855296fa7fc8af9f", func := "loop.example/g03317/laws.FnLevels", spec := "fnLevels", apart := false, narrowed := true }
def FnLevelsUptoSaid : Prop := fnLevelsUptoRow.holds Try.pinned (OpenSpec.upto fnLevelsSpec)

/-- 'laws.FnGates', WHERE WHAT IT READS IS OF BULK AT MOST 1048576: true; the input reads as it did. -/
def fnGatesUptoRow : OpenClaim := { program := "ytolifdpbkdeeeaa", sum := "9c5379c5ff62fe112dc04cbfdbca00ebd8c9187bb9fbd43d855296fa7fc8af9f", func := "loop.example/g03317/laws.FnGates", spec := "fnGates", unfollowed := true, recurses := true, apart := false, narrowed := true }
def FnGatesUptoSaid : Prop := fnGatesUptoRow.holds Try.pinned (OpenSpec.upto fnGatesSpec)

/-- 'laws.FnGateSteps', WHERE WHAT IT READS IS OF BULK AT MOST 1048576: true; the input reads as it did. -/
def fnGateStepsUptoRow : OpenClaim := { program := "ytolifdpbkdeeeaa", sum := "9c5379c5ff62fe112dc04cbfdbca00ebd8c9187bb9fbd43d855296fa7fc8af9f", func := "loop.example/g03317/laws.FnGateSteps", spec := "fnGateSteps", unfollowed := true, recurses := true, apart := false, narrowed := true }
def FnGateStepsUptoSaid : Prop := fnGateStepsUptoRow.holds Try.pinned (OpenSpec.upto fnGateStepsSpec)

/-- 'laws.FnLetThrough', WHERE WHAT IT READS IS OF BULK AT MOST 1048576: true; the input reads as it did. -/
def fnLetThroughUptoRow : OpenClaim := { program := "ytolifdpbkdeeeaa", sum := "9c5379c5ff62fe112dc04cbfdbca00ebd8c9187bb9fbd43d855296fa7fc8af9f", func := "loop.example/g03317/laws.FnLetThrough", spec := "fnLetThrough", unfollowed := true, recurses := true, apart := false, narrowed := true }
def FnLetThroughUptoSaid : Prop := fnLetThroughUptoRow.holds Try.pinned (OpenSpec.upto fnLetThroughSpec)

/-- 'laws.FnExactPassOn', WHERE WHAT IT READS IS OF BULK AT MOST 1048576: true; the input reads as it did. -/
def fnExactPassOnUptoRow : OpenClaim := { program := "ytolifdpbkdeeeaa", sum := "9c5379c5ff62fe112dc04cbfdbca00ebd8c9187bb9fbd43d855296fa7fc8af9f", func := "loop.example/g03317/laws.FnExactPassOn", spec := "fnExactPassOn", apart := false, narrowed := true }
def FnExactPassOnUptoSaid : Prop := fnExactPassOnUptoRow.holds Try.pinned (OpenSpec.upto fnExactPassOnSpec)

/-- 'laws.FnExactWeirOk', WHERE WHAT IT READS IS OF BULK AT MOST 1048576: true; the input reads as it did. -/
def fnExactWeirOkUptoRow : OpenClaim := { program := "ytolifdpbkdeeeaa", sum := "9c5379c5ff62fe112dc04cbfdbca00ebd8c9187bb9fbd43d855296fa7fc8af9f", func := "loop.example/g03317/laws.FnExactWeirOk", spec := "fnExactWeirOk", apart := false, narrowed := true }
def FnExactWeirOkUptoSaid : Prop := fnExactWeirOkUptoRow.holds Try.pinned (OpenSpec.upto fnExactWeirOkSpec)

/-- 'laws.FnExactGateFlow', WHERE WHAT IT READS IS OF BULK AT MOST 1048576: true; the input reads as it did. -/
def fnExactGateFlowUptoRow : OpenClaim := { program := "ytolifdpbkdeeeaa", sum := "9c5379c5ff62fe112dc04cbfdbca00ebd8c9187bb9fbd43d855296fa7fc8af9f", func := "loop.example/g03317/laws.FnExactGateFlow", spec := "fnExactGateFlow", unfollowed := true, recurses := true, apart := false, narrowed := true }
def FnExactGateFlowUptoSaid : Prop := fnExactGateFlowUptoRow.holds Try.pinned (OpenSpec.upto fnExactGateFlowSpec)

/-- 'laws.FnExactMoveGate', WHERE WHAT IT READS IS OF BULK AT MOST 1048576: true; the input reads as it did. -/
def fnExactMoveGateUptoRow : OpenClaim := { program := "ytolifdpbkdeeeaa", sum := "9c5379c5ff62fe112dc04cbfdbca00ebd8c9187bb9fbd43d855296fa7fc8af9f", func := "loop.example/g03317/laws.FnExactMoveGate", spec := "fnExactMoveGate", apart := false, narrowed := true }
def FnExactMoveGateUptoSaid : Prop := fnExactMoveGateUptoRow.holds Try.pinned (OpenSpec.upto fnExactMoveGateSpec)

/-- 'laws.FnExactOpenFor', WHERE WHAT IT READS IS OF BULK AT MOST 1048576: true; the input reads as it did. -/
def fnExactOpenForUptoRow : OpenClaim := { program := "ytolifdpbkdeeeaa", sum := "9c5379c5ff62fe112dc04cbfdbca00ebd8c9187bb9fbd43d855296fa7fc8af9f", func := "loop.example/g03317/laws.FnExactOpenFor", spec := "fnExactOpenFor", unfollowed := true, recurses := true, apart := false, narrowed := true }
def FnExactOpenForUptoSaid : Prop := fnExactOpenForUptoRow.holds Try.pinned (OpenSpec.upto fnExactOpenForSpec)

/-- 'laws.FnExactRuleOk', WHERE WHAT IT READS IS OF BULK AT MOST 1048576: true; the input reads as it did. -/
def fnExactRuleOkUptoRow : OpenClaim := { program := "ytolifdpbkdeeeaa", sum := "9c5379c5ff62fe112dc04cbfdbca00ebd8c9187bb9fbd43d855296fa7fc8af9f", func := "loop.example/g03317/laws.FnExactRuleOk", spec := "fnExactRuleOk", apart := false, narrowed := true }
def FnExactRuleOkUptoSaid : Prop := fnExactRuleOkUptoRow.holds Try.pinned (OpenSpec.upto fnExactRuleOkSpec)

/-- 'laws.FnExactWantedFlow', WHERE WHAT IT READS IS OF BULK AT MOST 1048576: true; the input reads as it did. -/
def fnExactWantedFlowUptoRow : OpenClaim := { program := "ytolifdpbkdeeeaa", sum := "9c5379c5ff62fe112dc04cbfdbca00ebd8c9187bb9fbd43d855296fa7fc8af9f", func := "loop.example/g03317/laws.FnExactWantedFlow", spec := "fnExactWantedFlow", unfollowed := true, recurses := true, apart := false, narrowed := true }
def FnExactWantedFlowUptoSaid : Prop := fnExactWantedFlowUptoRow.holds Try.pinned (OpenSpec.upto fnExactWantedFlowSpec)

/-- 'laws.FnExactSteerWeir', WHERE WHAT IT READS IS OF BULK AT MOST 1048576: true; the input reads as it did. -/
def fnExactSteerWeirUptoRow : OpenClaim := { program := "ytolifdpbkdeeeaa", sum := "9c5379c5ff62fe112dc04cbfdbca00ebd8c9187bb9fbd43d855296fa7fc8af9f", func := "loop.example/g03317/laws.FnExactSteerWeir", spec := "fnExactSteerWeir", unfollowed := true, recurses := true, apart := false, narrowed := true }
def FnExactSteerWeirUptoSaid : Prop := fnExactSteerWeirUptoRow.holds Try.pinned (OpenSpec.upto fnExactSteerWeirSpec)

/-- 'laws.FnExactLetThrough', WHERE WHAT IT READS IS OF BULK AT MOST 1048576: true; the input reads as it did. -/
def fnExactLetThroughUptoRow : OpenClaim := { program := "ytolifdpbkdeeeaa", sum := "9c5379c5ff62fe112dc04cbfdbca00ebd8c9187bb9fbd43d855296fa7fc8af9f", func := "loop.example/g03317/laws.FnExactLetThrough", spec := "fnExactLetThrough", unfollowed := true, recurses := true, apart := false, narrowed := true }
def FnExactLetThroughUptoSaid : Prop := fnExactLetThroughUptoRow.holds Try.pinned (OpenSpec.upto fnExactLetThroughSpec)

end Rows
end Go.Proofs.Ytolifdpbkdeeeaa
