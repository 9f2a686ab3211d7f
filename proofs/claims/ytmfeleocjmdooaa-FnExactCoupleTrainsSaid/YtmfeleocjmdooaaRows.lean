/-
  No cell of these rows narrows 'for every input' (looked for: loops, veiled, ifaces, maps, wideKeys, modest, calm, conditions, laid).
  DERIVED. THE GIVEN ROWS OF THIS SEAT. 23 by the template 'for every input the law returns true; each argument reads behind the call as it read before'; 0 by the template 'total and deterministic' (their statements: YtmfeleocjmdooaaTotals.lean).
  GIVEN WITH THE SEED: the statements are not yours to turn. If you find one false, say at which input.
  Laid BY PROGRAM, IN A SANDBOX (cutbox-rows.mjs): the forced cells as the released guide's own fill.sh prints them over the translation 6fd1a148b57c223b… (all of the seat's roots in one cut). By AI agents, Wed Nov 11 2026. No macro, syntax, notation, axiom, sorry.
-/
import Derived.Test.YtmfeleocjmdooaaChecked
import GoSem.Claim
import GoSem.ClaimJoined
import GoSem.ClaimMapViews
import Derived.JoinedTies
import Derived.KernelRfl
namespace Go.Proofs.Ytmfeleocjmdooaa
/- THE CELL 'sum', in the pinned program and in every row, IS THE sha256 OF THE DUMP (.gsa) THAT YtmfeleocjmdooaaProg.lean LOADS. Nothing in Lean hashes anything: it is a label: what it is worth is what the hold of that sum in a sandbox is worth. -/
noncomputable def Try.pinned : Pinned := { name := "ytmfeleocjmdooaa", sum := "6fd1a148b57c223b88e1871d6b70161b2201f73bd26c276d729a26c595f1fd60", checked := Try.checked }
namespace Rows
def none {H : Type} : Left H := { results := [], args := [] }

/-- 'laws.FnCoupled': WHATEVER THE INPUT: true; the input reads as it did. -/
def fnCoupledSpec : ChangeSpec := { name := "fnCoupled", fn := fun _ => fun
  | [d] => { results := [.lit (.bool true)], args := [d] }
  | _ => none }
def fnCoupledRow : OpenClaim := { program := "ytmfeleocjmdooaa", sum := "6fd1a148b57c223b88e1871d6b70161b2201f73bd26c276d729a26c595f1fd60", func := "loop.example/g03317/laws.FnCoupled", spec := "fnCoupled", unfollowed := true, recurses := true, apart := false }
def FnCoupledSaid : Prop := fnCoupledRow.holds Try.pinned (OpenSpec.ofChange fnCoupledSpec)

/-- ITS FALSE NEIGHBOUR: 'it returns false'. Refute it at one input. -/
def fnCoupledWrong : ChangeSpec := { name := "fnCoupled", fn := fun _ => fun
  | [d] => { results := [.lit (.bool false)], args := [d] }
  | _ => none }
def FnCoupledWrongFalsely : Prop := fnCoupledRow.holds Try.pinned (OpenSpec.ofChange fnCoupledWrong)

/-- 'laws.FnReformed': WHATEVER THE INPUT: true; the input reads as it did. -/
def fnReformedSpec : ChangeSpec := { name := "fnReformed", fn := fun _ => fun
  | [d] => { results := [.lit (.bool true)], args := [d] }
  | _ => none }
def fnReformedRow : OpenClaim := { program := "ytmfeleocjmdooaa", sum := "6fd1a148b57c223b88e1871d6b70161b2201f73bd26c276d729a26c595f1fd60", func := "loop.example/g03317/laws.FnReformed", spec := "fnReformed", unfollowed := true, recurses := true, apart := false }
def FnReformedSaid : Prop := fnReformedRow.holds Try.pinned (OpenSpec.ofChange fnReformedSpec)

/-- ITS FALSE NEIGHBOUR: 'it returns false'. Refute it at one input. -/
def fnReformedWrong : ChangeSpec := { name := "fnReformed", fn := fun _ => fun
  | [d] => { results := [.lit (.bool false)], args := [d] }
  | _ => none }
def FnReformedWrongFalsely : Prop := fnReformedRow.holds Try.pinned (OpenSpec.ofChange fnReformedWrong)

/-- 'laws.FnNobodyWaits': WHATEVER THE INPUT: true; the input reads as it did. -/
def fnNobodyWaitsSpec : ChangeSpec := { name := "fnNobodyWaits", fn := fun _ => fun
  | [d] => { results := [.lit (.bool true)], args := [d] }
  | _ => none }
def fnNobodyWaitsRow : OpenClaim := { program := "ytmfeleocjmdooaa", sum := "6fd1a148b57c223b88e1871d6b70161b2201f73bd26c276d729a26c595f1fd60", func := "loop.example/g03317/laws.FnNobodyWaits", spec := "fnNobodyWaits", unfollowed := true, recurses := true, apart := false }
def FnNobodyWaitsSaid : Prop := fnNobodyWaitsRow.holds Try.pinned (OpenSpec.ofChange fnNobodyWaitsSpec)

/-- ITS FALSE NEIGHBOUR: 'it returns false'. Refute it at one input. -/
def fnNobodyWaitsWrong : ChangeSpec := { name := "fnNobodyWaits", fn := fun _ => fun
  | [d] => { results := [.lit (.bool false)], args := [d] }
  | _ => none }
def FnNobodyWaitsWrongFalsely : Prop := fnNobodyWaitsRow.holds Try.pinned (OpenSpec.ofChange fnNobodyWaitsWrong)

/-- 'laws.FnExactRiverOk': WHATEVER THE INPUT: true; the input reads as it did. -/
def fnExactRiverOkSpec : ChangeSpec := { name := "fnExactRiverOk", fn := fun _ => fun
  | [d] => { results := [.lit (.bool true)], args := [d] }
  | _ => none }
def fnExactRiverOkRow : OpenClaim := { program := "ytmfeleocjmdooaa", sum := "6fd1a148b57c223b88e1871d6b70161b2201f73bd26c276d729a26c595f1fd60", func := "loop.example/g03317/laws.FnExactRiverOk", spec := "fnExactRiverOk", unfollowed := true, recurses := true, apart := false }
def FnExactRiverOkSaid : Prop := fnExactRiverOkRow.holds Try.pinned (OpenSpec.ofChange fnExactRiverOkSpec)

/-- ITS FALSE NEIGHBOUR: 'it returns false'. Refute it at one input. -/
def fnExactRiverOkWrong : ChangeSpec := { name := "fnExactRiverOk", fn := fun _ => fun
  | [d] => { results := [.lit (.bool false)], args := [d] }
  | _ => none }
def FnExactRiverOkWrongFalsely : Prop := fnExactRiverOkRow.holds Try.pinned (OpenSpec.ofChange fnExactRiverOkWrong)

/-- 'laws.FnExactRiverTotal': WHATEVER THE INPUT: true; the input reads as it did. -/
def fnExactRiverTotalSpec : ChangeSpec := { name := "fnExactRiverTotal", fn := fun _ => fun
  | [d] => { results := [.lit (.bool true)], args := [d] }
  | _ => none }
def fnExactRiverTotalRow : OpenClaim := { program := "ytmfeleocjmdooaa", sum := "6fd1a148b57c223b88e1871d6b70161b2201f73bd26c276d729a26c595f1fd60", func := "loop.example/g03317/laws.FnExactRiverTotal", spec := "fnExactRiverTotal", unfollowed := true, recurses := true, apart := false }
def FnExactRiverTotalSaid : Prop := fnExactRiverTotalRow.holds Try.pinned (OpenSpec.ofChange fnExactRiverTotalSpec)

/-- ITS FALSE NEIGHBOUR: 'it returns false'. Refute it at one input. -/
def fnExactRiverTotalWrong : ChangeSpec := { name := "fnExactRiverTotal", fn := fun _ => fun
  | [d] => { results := [.lit (.bool false)], args := [d] }
  | _ => none }
def FnExactRiverTotalWrongFalsely : Prop := fnExactRiverTotalRow.holds Try.pinned (OpenSpec.ofChange fnExactRiverTotalWrong)

/-- 'laws.FnExactTrainOk': WHATEVER THE INPUT: true; the input reads as it did. -/
def fnExactTrainOkSpec : ChangeSpec := { name := "fnExactTrainOk", fn := fun _ => fun
  | [d] => { results := [.lit (.bool true)], args := [d] }
  | _ => none }
def fnExactTrainOkRow : OpenClaim := { program := "ytmfeleocjmdooaa", sum := "6fd1a148b57c223b88e1871d6b70161b2201f73bd26c276d729a26c595f1fd60", func := "loop.example/g03317/laws.FnExactTrainOk", spec := "fnExactTrainOk", unfollowed := true, recurses := true, apart := false }
def FnExactTrainOkSaid : Prop := fnExactTrainOkRow.holds Try.pinned (OpenSpec.ofChange fnExactTrainOkSpec)

/-- ITS FALSE NEIGHBOUR: 'it returns false'. Refute it at one input. -/
def fnExactTrainOkWrong : ChangeSpec := { name := "fnExactTrainOk", fn := fun _ => fun
  | [d] => { results := [.lit (.bool false)], args := [d] }
  | _ => none }
def FnExactTrainOkWrongFalsely : Prop := fnExactTrainOkRow.holds Try.pinned (OpenSpec.ofChange fnExactTrainOkWrong)

/-- 'laws.FnExactIdsOf': WHATEVER THE INPUT: true; the input reads as it did. -/
def fnExactIdsOfSpec : ChangeSpec := { name := "fnExactIdsOf", fn := fun _ => fun
  | [d] => { results := [.lit (.bool true)], args := [d] }
  | _ => none }
def fnExactIdsOfRow : OpenClaim := { program := "ytmfeleocjmdooaa", sum := "6fd1a148b57c223b88e1871d6b70161b2201f73bd26c276d729a26c595f1fd60", func := "loop.example/g03317/laws.FnExactIdsOf", spec := "fnExactIdsOf", unfollowed := true, recurses := true, apart := false }
def FnExactIdsOfSaid : Prop := fnExactIdsOfRow.holds Try.pinned (OpenSpec.ofChange fnExactIdsOfSpec)

/-- ITS FALSE NEIGHBOUR: 'it returns false'. Refute it at one input. -/
def fnExactIdsOfWrong : ChangeSpec := { name := "fnExactIdsOf", fn := fun _ => fun
  | [d] => { results := [.lit (.bool false)], args := [d] }
  | _ => none }
def FnExactIdsOfWrongFalsely : Prop := fnExactIdsOfRow.holds Try.pinned (OpenSpec.ofChange fnExactIdsOfWrong)

/-- 'laws.FnExactLengthOf': WHATEVER THE INPUT: true; the input reads as it did. -/
def fnExactLengthOfSpec : ChangeSpec := { name := "fnExactLengthOf", fn := fun _ => fun
  | [d] => { results := [.lit (.bool true)], args := [d] }
  | _ => none }
def fnExactLengthOfRow : OpenClaim := { program := "ytmfeleocjmdooaa", sum := "6fd1a148b57c223b88e1871d6b70161b2201f73bd26c276d729a26c595f1fd60", func := "loop.example/g03317/laws.FnExactLengthOf", spec := "fnExactLengthOf", unfollowed := true, recurses := true, apart := false }
def FnExactLengthOfSaid : Prop := fnExactLengthOfRow.holds Try.pinned (OpenSpec.ofChange fnExactLengthOfSpec)

/-- ITS FALSE NEIGHBOUR: 'it returns false'. Refute it at one input. -/
def fnExactLengthOfWrong : ChangeSpec := { name := "fnExactLengthOf", fn := fun _ => fun
  | [d] => { results := [.lit (.bool false)], args := [d] }
  | _ => none }
def FnExactLengthOfWrongFalsely : Prop := fnExactLengthOfRow.holds Try.pinned (OpenSpec.ofChange fnExactLengthOfWrong)

/-- 'laws.FnExactWidthOf': WHATEVER THE INPUT: true; the input reads as it did. -/
def fnExactWidthOfSpec : ChangeSpec := { name := "fnExactWidthOf", fn := fun _ => fun
  | [d] => { results := [.lit (.bool true)], args := [d] }
  | _ => none }
def fnExactWidthOfRow : OpenClaim := { program := "ytmfeleocjmdooaa", sum := "6fd1a148b57c223b88e1871d6b70161b2201f73bd26c276d729a26c595f1fd60", func := "loop.example/g03317/laws.FnExactWidthOf", spec := "fnExactWidthOf", unfollowed := true, recurses := true, apart := false }
def FnExactWidthOfSaid : Prop := fnExactWidthOfRow.holds Try.pinned (OpenSpec.ofChange fnExactWidthOfSpec)

/-- ITS FALSE NEIGHBOUR: 'it returns false'. Refute it at one input. -/
def fnExactWidthOfWrong : ChangeSpec := { name := "fnExactWidthOf", fn := fun _ => fun
  | [d] => { results := [.lit (.bool false)], args := [d] }
  | _ => none }
def FnExactWidthOfWrongFalsely : Prop := fnExactWidthOfRow.holds Try.pinned (OpenSpec.ofChange fnExactWidthOfWrong)

/-- 'laws.FnExactDraughtOf': WHATEVER THE INPUT: true; the input reads as it did. -/
def fnExactDraughtOfSpec : ChangeSpec := { name := "fnExactDraughtOf", fn := fun _ => fun
  | [d] => { results := [.lit (.bool true)], args := [d] }
  | _ => none }
def fnExactDraughtOfRow : OpenClaim := { program := "ytmfeleocjmdooaa", sum := "6fd1a148b57c223b88e1871d6b70161b2201f73bd26c276d729a26c595f1fd60", func := "loop.example/g03317/laws.FnExactDraughtOf", spec := "fnExactDraughtOf", unfollowed := true, recurses := true, apart := false }
def FnExactDraughtOfSaid : Prop := fnExactDraughtOfRow.holds Try.pinned (OpenSpec.ofChange fnExactDraughtOfSpec)

/-- ITS FALSE NEIGHBOUR: 'it returns false'. Refute it at one input. -/
def fnExactDraughtOfWrong : ChangeSpec := { name := "fnExactDraughtOf", fn := fun _ => fun
  | [d] => { results := [.lit (.bool false)], args := [d] }
  | _ => none }
def FnExactDraughtOfWrongFalsely : Prop := fnExactDraughtOfRow.holds Try.pinned (OpenSpec.ofChange fnExactDraughtOfWrong)

/-- 'laws.FnExactSpeedOf': WHATEVER THE INPUT: true; the input reads as it did. -/
def fnExactSpeedOfSpec : ChangeSpec := { name := "fnExactSpeedOf", fn := fun _ => fun
  | [d] => { results := [.lit (.bool true)], args := [d] }
  | _ => none }
def fnExactSpeedOfRow : OpenClaim := { program := "ytmfeleocjmdooaa", sum := "6fd1a148b57c223b88e1871d6b70161b2201f73bd26c276d729a26c595f1fd60", func := "loop.example/g03317/laws.FnExactSpeedOf", spec := "fnExactSpeedOf", unfollowed := true, recurses := true, apart := false }
def FnExactSpeedOfSaid : Prop := fnExactSpeedOfRow.holds Try.pinned (OpenSpec.ofChange fnExactSpeedOfSpec)

/-- ITS FALSE NEIGHBOUR: 'it returns false'. Refute it at one input. -/
def fnExactSpeedOfWrong : ChangeSpec := { name := "fnExactSpeedOf", fn := fun _ => fun
  | [d] => { results := [.lit (.bool false)], args := [d] }
  | _ => none }
def FnExactSpeedOfWrongFalsely : Prop := fnExactSpeedOfRow.holds Try.pinned (OpenSpec.ofChange fnExactSpeedOfWrong)

/-- 'laws.FnExactClassOf': WHATEVER THE INPUT: true; the input reads as it did. -/
def fnExactClassOfSpec : ChangeSpec := { name := "fnExactClassOf", fn := fun _ => fun
  | [d] => { results := [.lit (.bool true)], args := [d] }
  | _ => none }
def fnExactClassOfRow : OpenClaim := { program := "ytmfeleocjmdooaa", sum := "6fd1a148b57c223b88e1871d6b70161b2201f73bd26c276d729a26c595f1fd60", func := "loop.example/g03317/laws.FnExactClassOf", spec := "fnExactClassOf", unfollowed := true, recurses := true, apart := false }
def FnExactClassOfSaid : Prop := fnExactClassOfRow.holds Try.pinned (OpenSpec.ofChange fnExactClassOfSpec)

/-- ITS FALSE NEIGHBOUR: 'it returns false'. Refute it at one input. -/
def fnExactClassOfWrong : ChangeSpec := { name := "fnExactClassOf", fn := fun _ => fun
  | [d] => { results := [.lit (.bool false)], args := [d] }
  | _ => none }
def FnExactClassOfWrongFalsely : Prop := fnExactClassOfRow.holds Try.pinned (OpenSpec.ofChange fnExactClassOfWrong)

/-- 'laws.FnExactCoupleTrains': WHATEVER THE INPUT: true; the input reads as it did. -/
def fnExactCoupleTrainsSpec : ChangeSpec := { name := "fnExactCoupleTrains", fn := fun _ => fun
  | [d1, d2] => { results := [.lit (.bool true)], args := [d1, d2] }
  | _ => none }
def fnExactCoupleTrainsRow : OpenClaim := { program := "ytmfeleocjmdooaa", sum := "6fd1a148b57c223b88e1871d6b70161b2201f73bd26c276d729a26c595f1fd60", func := "loop.example/g03317/laws.FnExactCoupleTrains", spec := "fnExactCoupleTrains", unfollowed := true, recurses := true, apart := false }
def FnExactCoupleTrainsSaid : Prop := fnExactCoupleTrainsRow.holds Try.pinned (OpenSpec.ofChange fnExactCoupleTrainsSpec)

/-- ITS FALSE NEIGHBOUR: 'it returns false'. Refute it at one input. -/
def fnExactCoupleTrainsWrong : ChangeSpec := { name := "fnExactCoupleTrains", fn := fun _ => fun
  | [d1, d2] => { results := [.lit (.bool false)], args := [d1, d2] }
  | _ => none }
def FnExactCoupleTrainsWrongFalsely : Prop := fnExactCoupleTrainsRow.holds Try.pinned (OpenSpec.ofChange fnExactCoupleTrainsWrong)

/-- 'laws.FnExactDivideTrain': WHATEVER THE INPUT: true; the input reads as it did. -/
def fnExactDivideTrainSpec : ChangeSpec := { name := "fnExactDivideTrain", fn := fun _ => fun
  | [d1, d2] => { results := [.lit (.bool true)], args := [d1, d2] }
  | _ => none }
def fnExactDivideTrainRow : OpenClaim := { program := "ytmfeleocjmdooaa", sum := "6fd1a148b57c223b88e1871d6b70161b2201f73bd26c276d729a26c595f1fd60", func := "loop.example/g03317/laws.FnExactDivideTrain", spec := "fnExactDivideTrain", unfollowed := true, recurses := true, apart := false }
def FnExactDivideTrainSaid : Prop := fnExactDivideTrainRow.holds Try.pinned (OpenSpec.ofChange fnExactDivideTrainSpec)

/-- ITS FALSE NEIGHBOUR: 'it returns false'. Refute it at one input. -/
def fnExactDivideTrainWrong : ChangeSpec := { name := "fnExactDivideTrain", fn := fun _ => fun
  | [d1, d2] => { results := [.lit (.bool false)], args := [d1, d2] }
  | _ => none }
def FnExactDivideTrainWrongFalsely : Prop := fnExactDivideTrainRow.holds Try.pinned (OpenSpec.ofChange fnExactDivideTrainWrong)

/-- 'laws.FnExactReformTrain': WHATEVER THE INPUT: true; the input reads as it did. -/
def fnExactReformTrainSpec : ChangeSpec := { name := "fnExactReformTrain", fn := fun _ => fun
  | [d1, d2] => { results := [.lit (.bool true)], args := [d1, d2] }
  | _ => none }
def fnExactReformTrainRow : OpenClaim := { program := "ytmfeleocjmdooaa", sum := "6fd1a148b57c223b88e1871d6b70161b2201f73bd26c276d729a26c595f1fd60", func := "loop.example/g03317/laws.FnExactReformTrain", spec := "fnExactReformTrain", unfollowed := true, recurses := true, apart := false }
def FnExactReformTrainSaid : Prop := fnExactReformTrainRow.holds Try.pinned (OpenSpec.ofChange fnExactReformTrainSpec)

/-- ITS FALSE NEIGHBOUR: 'it returns false'. Refute it at one input. -/
def fnExactReformTrainWrong : ChangeSpec := { name := "fnExactReformTrain", fn := fun _ => fun
  | [d1, d2] => { results := [.lit (.bool false)], args := [d1, d2] }
  | _ => none }
def FnExactReformTrainWrongFalsely : Prop := fnExactReformTrainRow.holds Try.pinned (OpenSpec.ofChange fnExactReformTrainWrong)

/-- 'laws.FnExactLockOk': WHATEVER THE INPUT: true; the input reads as it did. -/
def fnExactLockOkSpec : ChangeSpec := { name := "fnExactLockOk", fn := fun _ => fun
  | [d] => { results := [.lit (.bool true)], args := [d] }
  | _ => none }
def fnExactLockOkRow : OpenClaim := { program := "ytmfeleocjmdooaa", sum := "6fd1a148b57c223b88e1871d6b70161b2201f73bd26c276d729a26c595f1fd60", func := "loop.example/g03317/laws.FnExactLockOk", spec := "fnExactLockOk", unfollowed := true, recurses := true, apart := false }
def FnExactLockOkSaid : Prop := fnExactLockOkRow.holds Try.pinned (OpenSpec.ofChange fnExactLockOkSpec)

/-- ITS FALSE NEIGHBOUR: 'it returns false'. Refute it at one input. -/
def fnExactLockOkWrong : ChangeSpec := { name := "fnExactLockOk", fn := fun _ => fun
  | [d] => { results := [.lit (.bool false)], args := [d] }
  | _ => none }
def FnExactLockOkWrongFalsely : Prop := fnExactLockOkRow.holds Try.pinned (OpenSpec.ofChange fnExactLockOkWrong)

/-- 'laws.FnExactChamberLevel': WHATEVER THE INPUT: true; the input reads as it did. -/
def fnExactChamberLevelSpec : ChangeSpec := { name := "fnExactChamberLevel", fn := fun _ => fun
  | [d] => { results := [.lit (.bool true)], args := [d] }
  | _ => none }
def fnExactChamberLevelRow : OpenClaim := { program := "ytmfeleocjmdooaa", sum := "6fd1a148b57c223b88e1871d6b70161b2201f73bd26c276d729a26c595f1fd60", func := "loop.example/g03317/laws.FnExactChamberLevel", spec := "fnExactChamberLevel", unfollowed := true, recurses := true, apart := false }
def FnExactChamberLevelSaid : Prop := fnExactChamberLevelRow.holds Try.pinned (OpenSpec.ofChange fnExactChamberLevelSpec)

/-- ITS FALSE NEIGHBOUR: 'it returns false'. Refute it at one input. -/
def fnExactChamberLevelWrong : ChangeSpec := { name := "fnExactChamberLevel", fn := fun _ => fun
  | [d] => { results := [.lit (.bool false)], args := [d] }
  | _ => none }
def FnExactChamberLevelWrongFalsely : Prop := fnExactChamberLevelRow.holds Try.pinned (OpenSpec.ofChange fnExactChamberLevelWrong)

/-- 'laws.FnExactFitsChamber': WHATEVER THE INPUT: true; the input reads as it did. -/
def fnExactFitsChamberSpec : ChangeSpec := { name := "fnExactFitsChamber", fn := fun _ => fun
  | [d1, d2] => { results := [.lit (.bool true)], args := [d1, d2] }
  | _ => none }
def fnExactFitsChamberRow : OpenClaim := { program := "ytmfeleocjmdooaa", sum := "6fd1a148b57c223b88e1871d6b70161b2201f73bd26c276d729a26c595f1fd60", func := "loop.example/g03317/laws.FnExactFitsChamber", spec := "fnExactFitsChamber", unfollowed := true, recurses := true, apart := false }
def FnExactFitsChamberSaid : Prop := fnExactFitsChamberRow.holds Try.pinned (OpenSpec.ofChange fnExactFitsChamberSpec)

/-- ITS FALSE NEIGHBOUR: 'it returns false'. Refute it at one input. -/
def fnExactFitsChamberWrong : ChangeSpec := { name := "fnExactFitsChamber", fn := fun _ => fun
  | [d1, d2] => { results := [.lit (.bool false)], args := [d1, d2] }
  | _ => none }
def FnExactFitsChamberWrongFalsely : Prop := fnExactFitsChamberRow.holds Try.pinned (OpenSpec.ofChange fnExactFitsChamberWrong)

/-- 'laws.FnExactShutGate': WHATEVER THE INPUT: true; the input reads as it did. -/
def fnExactShutGateSpec : ChangeSpec := { name := "fnExactShutGate", fn := fun _ => fun
  | [d] => { results := [.lit (.bool true)], args := [d] }
  | _ => none }
def fnExactShutGateRow : OpenClaim := { program := "ytmfeleocjmdooaa", sum := "6fd1a148b57c223b88e1871d6b70161b2201f73bd26c276d729a26c595f1fd60", func := "loop.example/g03317/laws.FnExactShutGate", spec := "fnExactShutGate", unfollowed := true, recurses := true, apart := false }
def FnExactShutGateSaid : Prop := fnExactShutGateRow.holds Try.pinned (OpenSpec.ofChange fnExactShutGateSpec)

/-- ITS FALSE NEIGHBOUR: 'it returns false'. Refute it at one input. -/
def fnExactShutGateWrong : ChangeSpec := { name := "fnExactShutGate", fn := fun _ => fun
  | [d] => { results := [.lit (.bool false)], args := [d] }
  | _ => none }
def FnExactShutGateWrongFalsely : Prop := fnExactShutGateRow.holds Try.pinned (OpenSpec.ofChange fnExactShutGateWrong)

/-- 'laws.FnExactMayEnter': WHATEVER THE INPUT: true; the input reads as it did. -/
def fnExactMayEnterSpec : ChangeSpec := { name := "fnExactMayEnter", fn := fun _ => fun
  | [d1, d2, d3] => { results := [.lit (.bool true)], args := [d1, d2, d3] }
  | _ => none }
def fnExactMayEnterRow : OpenClaim := { program := "ytmfeleocjmdooaa", sum := "6fd1a148b57c223b88e1871d6b70161b2201f73bd26c276d729a26c595f1fd60", func := "loop.example/g03317/laws.FnExactMayEnter", spec := "fnExactMayEnter", unfollowed := true, recurses := true, apart := false }
def FnExactMayEnterSaid : Prop := fnExactMayEnterRow.holds Try.pinned (OpenSpec.ofChange fnExactMayEnterSpec)

/-- ITS FALSE NEIGHBOUR: 'it returns false'. Refute it at one input. -/
def fnExactMayEnterWrong : ChangeSpec := { name := "fnExactMayEnter", fn := fun _ => fun
  | [d1, d2, d3] => { results := [.lit (.bool false)], args := [d1, d2, d3] }
  | _ => none }
def FnExactMayEnterWrongFalsely : Prop := fnExactMayEnterRow.holds Try.pinned (OpenSpec.ofChange fnExactMayEnterWrong)

/-- 'laws.FnExactCallOk': WHATEVER THE INPUT: true; the input reads as it did. -/
def fnExactCallOkSpec : ChangeSpec := { name := "fnExactCallOk", fn := fun _ => fun
  | [d] => { results := [.lit (.bool true)], args := [d] }
  | _ => none }
def fnExactCallOkRow : OpenClaim := { program := "ytmfeleocjmdooaa", sum := "6fd1a148b57c223b88e1871d6b70161b2201f73bd26c276d729a26c595f1fd60", func := "loop.example/g03317/laws.FnExactCallOk", spec := "fnExactCallOk", unfollowed := true, recurses := true, apart := false }
def FnExactCallOkSaid : Prop := fnExactCallOkRow.holds Try.pinned (OpenSpec.ofChange fnExactCallOkSpec)

/-- ITS FALSE NEIGHBOUR: 'it returns false'. Refute it at one input. -/
def fnExactCallOkWrong : ChangeSpec := { name := "fnExactCallOk", fn := fun _ => fun
  | [d] => { results := [.lit (.bool false)], args := [d] }
  | _ => none }
def FnExactCallOkWrongFalsely : Prop := fnExactCallOkRow.holds Try.pinned (OpenSpec.ofChange fnExactCallOkWrong)

/-- 'laws.FnExactRankOf': WHATEVER THE INPUT: true; the input reads as it did. -/
def fnExactRankOfSpec : ChangeSpec := { name := "fnExactRankOf", fn := fun _ => fun
  | [d1, d2] => { results := [.lit (.bool true)], args := [d1, d2] }
  | _ => none }
def fnExactRankOfRow : OpenClaim := { program := "ytmfeleocjmdooaa", sum := "6fd1a148b57c223b88e1871d6b70161b2201f73bd26c276d729a26c595f1fd60", func := "loop.example/g03317/laws.FnExactRankOf", spec := "fnExactRankOf", unfollowed := true, recurses := true, apart := false }
def FnExactRankOfSaid : Prop := fnExactRankOfRow.holds Try.pinned (OpenSpec.ofChange fnExactRankOfSpec)

/-- ITS FALSE NEIGHBOUR: 'it returns false'. Refute it at one input. -/
def fnExactRankOfWrong : ChangeSpec := { name := "fnExactRankOf", fn := fun _ => fun
  | [d1, d2] => { results := [.lit (.bool false)], args := [d1, d2] }
  | _ => none }
def FnExactRankOfWrongFalsely : Prop := fnExactRankOfRow.holds Try.pinned (OpenSpec.ofChange fnExactRankOfWrong)

/-- 'laws.FnExactComesBefore': WHATEVER THE INPUT: true; the input reads as it did. -/
def fnExactComesBeforeSpec : ChangeSpec := { name := "fnExactComesBefore", fn := fun _ => fun
  | [d1, d2, d3] => { results := [.lit (.bool true)], args := [d1, d2, d3] }
  | _ => none }
def fnExactComesBeforeRow : OpenClaim := { program := "ytmfeleocjmdooaa", sum := "6fd1a148b57c223b88e1871d6b70161b2201f73bd26c276d729a26c595f1fd60", func := "loop.example/g03317/laws.FnExactComesBefore", spec := "fnExactComesBefore", unfollowed := true, recurses := true, apart := false }
def FnExactComesBeforeSaid : Prop := fnExactComesBeforeRow.holds Try.pinned (OpenSpec.ofChange fnExactComesBeforeSpec)

/-- ITS FALSE NEIGHBOUR: 'it returns false'. Refute it at one input. -/
def fnExactComesBeforeWrong : ChangeSpec := { name := "fnExactComesBefore", fn := fun _ => fun
  | [d1, d2, d3] => { results := [.lit (.bool false)], args := [d1, d2, d3] }
  | _ => none }
def FnExactComesBeforeWrongFalsely : Prop := fnExactComesBeforeRow.holds Try.pinned (OpenSpec.ofChange fnExactComesBeforeWrong)

/- THE SECOND FORM. 'bulk': how many values and letters a reading holds, each counted each time it is reached (what is shared counts as often as it is met; a slice's spare places count too). A statement '..UptoSaid' is the law's where the arguments, and the package variables that the reading takes, are together of bulk at most 1048576: NARROWER than '..Said'. Prove '..Said' where nothing that the law and all that it calls make is longer than what came in: it says more and counts as full. Else prove '..UptoSaid'. A law counts once. -/
mutual
def uptoBulk {H : Type} : DataW H → Nat
  | .lit (.string bytes) => bytes.length + 1
  | .lit _ => 1
  | .nil => 1
  | .ptr d => uptoBulk d + 1
  | .slice elems spare => uptoBulkAll elems + uptoBulkAll spare + 1
  | .agg parts => uptoBulkAll parts + 1
  | .iface _ d => uptoBulk d + 1
  | .map entries => uptoBulkEntries entries + 1
  | .held _ => 1
def uptoBulkAll {H : Type} : List (DataW H) → Nat
  | [] => 0
  | d :: r => uptoBulk d + uptoBulkAll r
def uptoBulkEntries {H : Type} : List (Lit × DataW H) → Nat
  | [] => 0
  | x :: r => uptoBulkEntry x + uptoBulkEntries r
def uptoBulkEntry {H : Type} : Lit × DataW H → Nat
  | (.string bytes, d) => bytes.length + uptoBulk d + 1
  | (_, d) => uptoBulk d + 1
 end
def uptoSmall : (H : Type) → List (DataW H) → Bool := fun _ ds => decide (uptoBulkAll ds ≤ 1048576)
def OpenSpec.upto (s : _root_.Go.ChangeSpec) : _root_.Go.OpenSpec := { _root_.Go.OpenSpec.ofChange s with cond := some uptoSmall }

/-- 'laws.FnCoupled', WHERE WHAT IT READS IS OF BULK AT MOST 1048576: true; the input reads as it did. -/
def fnCoupledUptoRow : OpenClaim := { program := "ytmfeleocjmdooaa", sum := "6fd1a148b57c223b88e1871d6b70161b2201f73bd26c276d729a26c595f1fd60", func := "loop.example/g03317/laws.FnCoupled", spec := "fnCoupled", unfollowed := true, recurses := true, apart := false, narrowed := true }
def FnCoupledUptoSaid : Prop := fnCoupledUptoRow.holds Try.pinned (OpenSpec.upto fnCoupledSpec)

/-- 'laws.FnReformed', WHERE WHAT IT READS IS OF BULK AT MOST 1048576: true; the input reads as it did. -/
def fnReformedUptoRow : OpenClaim := { program := "ytmfeleocjmdooaa", sum := "6fd1a148b57c223b88e1871d6b70161b2201f73bd26c276d729a26c595f1fd60", func := "loop.example/g03317/laws.FnReformed", spec := "fnReformed", unfollowed := true, recurses := true, apart := false, narrowed := true }
def FnReformedUptoSaid : Prop := fnReformedUptoRow.holds Try.pinned (OpenSpec.upto fnReformedSpec)

/-- 'laws.FnNobodyWaits', WHERE WHAT IT READS IS OF BULK AT MOST 1048576: true; the input reads as it did. -/
def fnNobodyWaitsUptoRow : OpenClaim := { program := "ytmfeleocjmdooaa", sum := "6fd1a148b57c223b88e1871d6b70161b2201f73bd26c276d729a26c595f1fd60", func := "loop.example/g03317/laws.FnNobodyWaits", spec := "fnNobodyWaits", unfollowed := true, recurses := true, apart := false, narrowed := true }
def FnNobodyWaitsUptoSaid : Prop := fnNobodyWaitsUptoRow.holds Try.pinned (OpenSpec.upto fnNobodyWaitsSpec)

/-- 'laws.FnExactRiverOk', WHERE WHAT IT READS IS OF BULK AT MOST 1048576: true; the input reads as it did. -/
def fnExactRiverOkUptoRow : OpenClaim := { program := "ytmfeleocjmdooaa", sum := "6fd1a148b57c223b88e1871d6b70161b2201f73bd26c276d729a26c595f1fd60", func := "loop.example/g03317/laws.FnExactRiverOk", spec := "fnExactRiverOk", unfollowed := true, recurses := true, apart := false, narrowed := true }
def FnExactRiverOkUptoSaid : Prop := fnExactRiverOkUptoRow.holds Try.pinned (OpenSpec.upto fnExactRiverOkSpec)

/-- 'laws.FnExactRiverTotal', WHERE WHAT IT READS IS OF BULK AT MOST 1048576: true; the input reads as it did. -/
def fnExactRiverTotalUptoRow : OpenClaim := { program := "ytmfeleocjmdooaa", sum := "6fd1a148b57c223b88e1871d6b70161b2201f73bd26c276d729a26c595f1fd60", func := "loop.example/g03317/laws.FnExactRiverTotal", spec := "fnExactRiverTotal", unfollowed := true, recurses := true, apart := false, narrowed := true }
def FnExactRiverTotalUptoSaid : Prop := fnExactRiverTotalUptoRow.holds Try.pinned (OpenSpec.upto fnExactRiverTotalSpec)

/-- 'laws.FnExactTrainOk', WHERE WHAT IT READS IS OF BULK AT MOST 1048576: true; the input reads as it did. -/
def fnExactTrainOkUptoRow : OpenClaim := { program := "ytmfeleocjmdooaa", sum := "6fd1a148b57c223b88e1871d6b70161b2201f73bd26c276d729a26c595f1fd60", func := "loop.example/g03317/laws.FnExactTrainOk", spec := "fnExactTrainOk", unfollowed := true, recurses := true, apart := false, narrowed := true }
def FnExactTrainOkUptoSaid : Prop := fnExactTrainOkUptoRow.holds Try.pinned (OpenSpec.upto fnExactTrainOkSpec)

/-- 'laws.FnExactIdsOf', WHERE WHAT IT READS IS OF BULK AT MOST 1048576: true; the input reads as it did. -/
def fnExactIdsOfUptoRow : OpenClaim := { program := "ytmfeleocjmdooaa", sum := "6fd1a148b57c223b88e1871d6b70161b2201f73bd26c276d729a26c595f1fd60", func := "loop.example/g03317/laws.FnExactIdsOf", spec := "fnExactIdsOf", unfollowed := true, recurses := true, apart := false, narrowed := true }
def FnExactIdsOfUptoSaid : Prop := fnExactIdsOfUptoRow.holds Try.pinned (OpenSpec.upto fnExactIdsOfSpec)

/-- 'laws.FnExactLengthOf', WHERE WHAT IT READS IS OF BULK AT MOST 1048576: true; the input reads as it did. -/
def fnExactLengthOfUptoRow : OpenClaim := { program := "ytmfeleocjmdooaa", sum := "6fd1a148b57c223b88e1871d6b70161b2201f73bd26c276d729a26c595f1fd60", func := "loop.example/g03317/laws.FnExactLengthOf", spec := "fnExactLengthOf", unfollowed := true, recurses := true, apart := false, narrowed := true }
def FnExactLengthOfUptoSaid : Prop := fnExactLengthOfUptoRow.holds Try.pinned (OpenSpec.upto fnExactLengthOfSpec)

/-- 'laws.FnExactWidthOf', WHERE WHAT IT READS IS OF BULK AT MOST 1048576: true; the input reads as it did. -/
def fnExactWidthOfUptoRow : OpenClaim := { program := "ytmfeleocjmdooaa", sum := "6fd1a148b57c223b88e1871d6b70161b2201f73bd26c276d729a26c595f1fd60", func := "loop.example/g03317/laws.FnExactWidthOf", spec := "fnExactWidthOf", unfollowed := true, recurses := true, apart := false, narrowed := true }
def FnExactWidthOfUptoSaid : Prop := fnExactWidthOfUptoRow.holds Try.pinned (OpenSpec.upto fnExactWidthOfSpec)

/-- 'laws.FnExactDraughtOf', WHERE WHAT IT READS IS OF BULK AT MOST 1048576: true; the input reads as it did. -/
def fnExactDraughtOfUptoRow : OpenClaim := { program := "ytmfeleocjmdooaa", sum := "6fd1a148b57c223b88e1871d6b70161b2201f73bd26c276d729a26c595f1fd60", func := "loop.example/g03317/laws.FnExactDraughtOf", spec := "fnExactDraughtOf", unfollowed := true, recurses := true, apart := false, narrowed := true }
def FnExactDraughtOfUptoSaid : Prop := fnExactDraughtOfUptoRow.holds Try.pinned (OpenSpec.upto fnExactDraughtOfSpec)

/-- 'laws.FnExactSpeedOf', WHERE WHAT IT READS IS OF BULK AT MOST 1048576: true; the input reads as it did. -/
def fnExactSpeedOfUptoRow : OpenClaim := { program := "ytmfeleocjmdooaa", sum := "6fd1a148b57c223b88e1871d6b70161b2201f73bd26c276d729a26c595f1fd60", func := "loop.example/g03317/laws.FnExactSpeedOf", spec := "fnExactSpeedOf", unfollowed := true, recurses := true, apart := false, narrowed := true }
def FnExactSpeedOfUptoSaid : Prop := fnExactSpeedOfUptoRow.holds Try.pinned (OpenSpec.upto fnExactSpeedOfSpec)

/-- 'laws.FnExactClassOf', WHERE WHAT IT READS IS OF BULK AT MOST 1048576: true; the input reads as it did. -/
def fnExactClassOfUptoRow : OpenClaim := { program := "ytmfeleocjmdooaa", sum := "6fd1a148b57c223b88e1871d6b70161b2201f73bd26c276d729a26c595f1fd60", func := "loop.example/g03317/laws.FnExactClassOf", spec := "fnExactClassOf", unfollowed := true, recurses := true, apart := false, narrowed := true }
def FnExactClassOfUptoSaid : Prop := fnExactClassOfUptoRow.holds Try.pinned (OpenSpec.upto fnExactClassOfSpec)

/-- 'laws.FnExactCoupleTrains', WHERE WHAT IT READS IS OF BULK AT MOST 1048576: true; the input reads as it did. -/
def fnExactCoupleTrainsUptoRow : OpenClaim := { program := "ytmfeleocjmdooaa", sum := "6fd1a148b57c223b88e1871d6b70161b2201f73bd26c276d729a26c595f1fd60", func := "loop.example/g03317/laws.FnExactCoupleTrains", spec := "fnExactCoupleTrains", unfollowed := true, recurses := true, apart := false, narrowed := true }
def FnExactCoupleTrainsUptoSaid : Prop := fnExactCoupleTrainsUptoRow.holds Try.pinned (OpenSpec.upto fnExactCoupleTrainsSpec)

/-- 'laws.FnExactDivideTrain', WHERE WHAT IT READS IS OF BULK AT MOST 1048576: true; the input reads as it did. -/
def fnExactDivideTrainUptoRow : OpenClaim := { program := "ytmfeleocjmdooaa", sum := "6fd1a148b57c223b88e1871d6b70161b2201f73bd26c276d729a26c595f1fd60", func := "loop.example/g03317/laws.FnExactDivideTrain", spec := "fnExactDivideTrain", unfollowed := true, recurses := true, apart := false, narrowed := true }
def FnExactDivideTrainUptoSaid : Prop := fnExactDivideTrainUptoRow.holds Try.pinned (OpenSpec.upto fnExactDivideTrainSpec)

/-- 'laws.FnExactReformTrain', WHERE WHAT IT READS IS OF BULK AT MOST 1048576: true; the input reads as it did. -/
def fnExactReformTrainUptoRow : OpenClaim := { program := "ytmfeleocjmdooaa", sum := "6fd1a148b57c223b88e1871d6b70161b2201f73bd26c276d729a26c595f1fd60", func := "loop.example/g03317/laws.FnExactReformTrain", spec := "fnExactReformTrain", unfollowed := true, recurses := true, apart := false, narrowed := true }
def FnExactReformTrainUptoSaid : Prop := fnExactReformTrainUptoRow.holds Try.pinned (OpenSpec.upto fnExactReformTrainSpec)

/-- 'laws.FnExactLockOk', WHERE WHAT IT READS IS OF BULK AT MOST 1048576: true; the input reads as it did. -/
def fnExactLockOkUptoRow : OpenClaim := { program := "ytmfeleocjmdooaa", sum := "6fd1a148b57c223b88e1871d6b70161b2201f73bd26c276d729a26c595f1fd60", func := "loop.example/g03317/laws.FnExactLockOk", spec := "fnExactLockOk", unfollowed := true, recurses := true, apart := false, narrowed := true }
def FnExactLockOkUptoSaid : Prop := fnExactLockOkUptoRow.holds Try.pinned (OpenSpec.upto fnExactLockOkSpec)

/-- 'laws.FnExactChamberLevel', WHERE WHAT IT READS IS OF BULK AT MOST 1048576: true; the input reads as it did. -/
def fnExactChamberLevelUptoRow : OpenClaim := { program := "ytmfeleocjmdooaa", sum := "6fd1a148b57c223b88e1871d6b70161b2201f73bd26c276d729a26c595f1fd60", func := "loop.example/g03317/laws.FnExactChamberLevel", spec := "fnExactChamberLevel", unfollowed := true, recurses := true, apart := false, narrowed := true }
def FnExactChamberLevelUptoSaid : Prop := fnExactChamberLevelUptoRow.holds Try.pinned (OpenSpec.upto fnExactChamberLevelSpec)

/-- 'laws.FnExactFitsChamber', WHERE WHAT IT READS IS OF BULK AT MOST 1048576: true; the input reads as it did. -/
def fnExactFitsChamberUptoRow : OpenClaim := { program := "ytmfeleocjmdooaa", sum := "6fd1a148b57c223b88e1871d6b70161b2201f73bd26c276d729a26c595f1fd60", func := "loop.example/g03317/laws.FnExactFitsChamber", spec := "fnExactFitsChamber", unfollowed := true, recurses := true, apart := false, narrowed := true }
def FnExactFitsChamberUptoSaid : Prop := fnExactFitsChamberUptoRow.holds Try.pinned (OpenSpec.upto fnExactFitsChamberSpec)

/-- 'laws.FnExactShutGate', WHERE WHAT IT READS IS OF BULK AT MOST 1048576: true; the input reads as it did. -/
def fnExactShutGateUptoRow : OpenClaim := { program := "ytmfeleocjmdooaa", sum := "6fd1a148b57c223b88e1871d6b70161b2201f73bd26c276d729a26c595f1fd60", func := "loop.example/g03317/laws.FnExactShutGate", spec := "fnExactShutGate", unfollowed := true, recurses := true, apart := false, narrowed := true }
def FnExactShutGateUptoSaid : Prop := fnExactShutGateUptoRow.holds Try.pinned (OpenSpec.upto fnExactShutGateSpec)

/-- 'laws.FnExactMayEnter', WHERE WHAT IT READS IS OF BULK AT MOST 1048576: true; the input reads as it did. -/
def fnExactMayEnterUptoRow : OpenClaim := { program := "ytmfeleocjmdooaa", sum := "6fd1a148b57c223b88e1871d6b70161b2201f73bd26c276d729a26c595f1fd60", func := "loop.example/g03317/laws.FnExactMayEnter", spec := "fnExactMayEnter", unfollowed := true, recurses := true, apart := false, narrowed := true }
def FnExactMayEnterUptoSaid : Prop := fnExactMayEnterUptoRow.holds Try.pinned (OpenSpec.upto fnExactMayEnterSpec)

/-- 'laws.FnExactCallOk', WHERE WHAT IT READS IS OF BULK AT MOST 1048576: true; the input reads as it did. -/
def fnExactCallOkUptoRow : OpenClaim := { program := "ytmfeleocjmdooaa", sum := "6fd1a148b57c223b88e1871d6b70161b2201f73bd26c276d729a26c595f1fd60", func := "loop.example/g03317/laws.FnExactCallOk", spec := "fnExactCallOk", unfollowed := true, recurses := true, apart := false, narrowed := true }
def FnExactCallOkUptoSaid : Prop := fnExactCallOkUptoRow.holds Try.pinned (OpenSpec.upto fnExactCallOkSpec)

/-- 'laws.FnExactRankOf', WHERE WHAT IT READS IS OF BULK AT MOST 1048576: true; the input reads as it did. -/
def fnExactRankOfUptoRow : OpenClaim := { program := "ytmfeleocjmdooaa", sum := "6fd1a148b57c223b88e1871d6b70161b2201f73bd26c276d729a26c595f1fd60", func := "loop.example/g03317/laws.FnExactRankOf", spec := "fnExactRankOf", unfollowed := true, recurses := true, apart := false, narrowed := true }
def FnExactRankOfUptoSaid : Prop := fnExactRankOfUptoRow.holds Try.pinned (OpenSpec.upto fnExactRankOfSpec)

/-- 'laws.FnExactComesBefore', WHERE WHAT IT READS IS OF BULK AT MOST 1048576: true; the input reads as it did. -/
def fnExactComesBeforeUptoRow : OpenClaim := { program := "ytmfeleocjmdooaa", sum := "6fd1a148b57c223b88e1871d6b70161b2201f73bd26c276d729a26c595f1fd60", func := "loop.example/g03317/laws.FnExactComesBefore", spec := "fnExactComesBefore", unfollowed := true, recurses := true, apart := false, narrowed := true }
def FnExactComesBeforeUptoSaid : Prop := fnExactComesBeforeUptoRow.holds Try.pinned (OpenSpec.upto fnExactComesBeforeSpec)

end Rows
end Go.Proofs.Ytmfeleocjmdooaa
