/-
  No cell of these rows narrows 'for every input' (looked for: loops, veiled, ifaces, maps, wideKeys, modest, calm, conditions, laid).
  DERIVED. THE GIVEN ROWS OF THIS SEAT. 12 by the template 'for every input the law returns true; each argument reads behind the call as it read before'; 0 by the template 'total and deterministic' (their statements: YtneapghhnjheaaaTotals.lean).
  GIVEN WITH THE SEED: the statements are not yours to turn. If you find one false, say at which input.
  Laid BY PROGRAM, IN A SANDBOX (cutbox-rows.mjs): the forced cells as the released guide's own fill.sh prints them over the translation 99bdd30d702b3bd2… (all of the seat's roots in one cut). By AI agents, Wed Nov 11 2026. No macro, syntax, notation, axiom, sorry.
-/
import Derived.Test.YtneapghhnjheaaaChecked
import GoSem.Claim
import GoSem.ClaimJoined
import GoSem.ClaimMapViews
import Derived.JoinedTies
import Derived.KernelRfl
namespace Go.Proofs.Ytneapghhnjheaaa
/- THE CELL 'sum', in the pinned program and in every row, IS THE sha256 OF THE DUMP (.gsa) THAT YtneapghhnjheaaaProg.lean LOADS. Nothing in Lean hashes anything: it is a label: what it is worth is what the hold of that sum in a sandbox is worth. -/
noncomputable def Try.pinned : Pinned := { name := "ytneapghhnjheaaa", sum := "99bdd30d702b3bd2ab6debb0e2fc456320ab1d2f1346a8bb5a100231cd27a079", checked := Try.checked }
namespace Rows
def none {H : Type} : Left H := { results := [], args := [] }

/-- 'laws.FnCoupled': WHATEVER THE INPUT: true; the input reads as it did. -/
def fnCoupledSpec : ChangeSpec := { name := "fnCoupled", fn := fun _ => fun
  | [d] => { results := [.lit (.bool true)], args := [d] }
  | _ => none }
def fnCoupledRow : OpenClaim := { program := "ytneapghhnjheaaa", sum := "99bdd30d702b3bd2ab6debb0e2fc456320ab1d2f1346a8bb5a100231cd27a079", func := "loop.example/g03317/laws.FnCoupled", spec := "fnCoupled", unfollowed := true, recurses := true, apart := false }
def FnCoupledSaid : Prop := fnCoupledRow.holds Try.pinned (OpenSpec.ofChange fnCoupledSpec)

/-- ITS FALSE NEIGHBOUR: 'it returns false'. Refute it at one input. -/
def fnCoupledWrong : ChangeSpec := { name := "fnCoupled", fn := fun _ => fun
  | [d] => { results := [.lit (.bool false)], args := [d] }
  | _ => none }
def FnCoupledWrongFalsely : Prop := fnCoupledRow.holds Try.pinned (OpenSpec.ofChange fnCoupledWrong)

/-- 'laws.FnReformed': WHATEVER THE INPUT: true; the input reads as it did. -/
def fnReformedSpec : ChangeSpec := { name := "fnReformed", fn := fun _ => fun
  | [d] => { results := [.lit (.bool true)], args := [d] }
  | _ => none }
def fnReformedRow : OpenClaim := { program := "ytneapghhnjheaaa", sum := "99bdd30d702b3bd2ab6debb0e2fc456320ab1d2f1346a8bb5a100231cd27a079", func := "loop.example/g03317/laws.FnReformed", spec := "fnReformed", unfollowed := true, recurses := true, apart := false }
def FnReformedSaid : Prop := fnReformedRow.holds Try.pinned (OpenSpec.ofChange fnReformedSpec)

/-- ITS FALSE NEIGHBOUR: 'it returns false'. Refute it at one input. -/
def fnReformedWrong : ChangeSpec := { name := "fnReformed", fn := fun _ => fun
  | [d] => { results := [.lit (.bool false)], args := [d] }
  | _ => none }
def FnReformedWrongFalsely : Prop := fnReformedRow.holds Try.pinned (OpenSpec.ofChange fnReformedWrong)

/-- 'laws.FnBestEntry': WHATEVER THE INPUT: true; the input reads as it did. -/
def fnBestEntrySpec : ChangeSpec := { name := "fnBestEntry", fn := fun _ => fun
  | [d] => { results := [.lit (.bool true)], args := [d] }
  | _ => none }
def fnBestEntryRow : OpenClaim := { program := "ytneapghhnjheaaa", sum := "99bdd30d702b3bd2ab6debb0e2fc456320ab1d2f1346a8bb5a100231cd27a079", func := "loop.example/g03317/laws.FnBestEntry", spec := "fnBestEntry", unfollowed := true, recurses := true, apart := false }
def FnBestEntrySaid : Prop := fnBestEntryRow.holds Try.pinned (OpenSpec.ofChange fnBestEntrySpec)

/-- ITS FALSE NEIGHBOUR: 'it returns false'. Refute it at one input. -/
def fnBestEntryWrong : ChangeSpec := { name := "fnBestEntry", fn := fun _ => fun
  | [d] => { results := [.lit (.bool false)], args := [d] }
  | _ => none }
def FnBestEntryWrongFalsely : Prop := fnBestEntryRow.holds Try.pinned (OpenSpec.ofChange fnBestEntryWrong)

/-- 'laws.FnFits': WHATEVER THE INPUT: true; the input reads as it did. -/
def fnFitsSpec : ChangeSpec := { name := "fnFits", fn := fun _ => fun
  | [d] => { results := [.lit (.bool true)], args := [d] }
  | _ => none }
def fnFitsRow : OpenClaim := { program := "ytneapghhnjheaaa", sum := "99bdd30d702b3bd2ab6debb0e2fc456320ab1d2f1346a8bb5a100231cd27a079", func := "loop.example/g03317/laws.FnFits", spec := "fnFits", unfollowed := true, recurses := true, apart := false }
def FnFitsSaid : Prop := fnFitsRow.holds Try.pinned (OpenSpec.ofChange fnFitsSpec)

/-- ITS FALSE NEIGHBOUR: 'it returns false'. Refute it at one input. -/
def fnFitsWrong : ChangeSpec := { name := "fnFits", fn := fun _ => fun
  | [d] => { results := [.lit (.bool false)], args := [d] }
  | _ => none }
def FnFitsWrongFalsely : Prop := fnFitsRow.holds Try.pinned (OpenSpec.ofChange fnFitsWrong)

/-- 'laws.FnLockage': WHATEVER THE INPUT: true; the input reads as it did. -/
def fnLockageSpec : ChangeSpec := { name := "fnLockage", fn := fun _ => fun
  | [d] => { results := [.lit (.bool true)], args := [d] }
  | _ => none }
def fnLockageRow : OpenClaim := { program := "ytneapghhnjheaaa", sum := "99bdd30d702b3bd2ab6debb0e2fc456320ab1d2f1346a8bb5a100231cd27a079", func := "loop.example/g03317/laws.FnLockage", spec := "fnLockage", unfollowed := true, recurses := true, apart := false }
def FnLockageSaid : Prop := fnLockageRow.holds Try.pinned (OpenSpec.ofChange fnLockageSpec)

/-- ITS FALSE NEIGHBOUR: 'it returns false'. Refute it at one input. -/
def fnLockageWrong : ChangeSpec := { name := "fnLockage", fn := fun _ => fun
  | [d] => { results := [.lit (.bool false)], args := [d] }
  | _ => none }
def FnLockageWrongFalsely : Prop := fnLockageRow.holds Try.pinned (OpenSpec.ofChange fnLockageWrong)

/-- 'laws.FnDepthOverSills': WHATEVER THE INPUT: true; the input reads as it did. -/
def fnDepthOverSillsSpec : ChangeSpec := { name := "fnDepthOverSills", fn := fun _ => fun
  | [d] => { results := [.lit (.bool true)], args := [d] }
  | _ => none }
def fnDepthOverSillsRow : OpenClaim := { program := "ytneapghhnjheaaa", sum := "99bdd30d702b3bd2ab6debb0e2fc456320ab1d2f1346a8bb5a100231cd27a079", func := "loop.example/g03317/laws.FnDepthOverSills", spec := "fnDepthOverSills", unfollowed := true, recurses := true, apart := false }
def FnDepthOverSillsSaid : Prop := fnDepthOverSillsRow.holds Try.pinned (OpenSpec.ofChange fnDepthOverSillsSpec)

/-- ITS FALSE NEIGHBOUR: 'it returns false'. Refute it at one input. -/
def fnDepthOverSillsWrong : ChangeSpec := { name := "fnDepthOverSills", fn := fun _ => fun
  | [d] => { results := [.lit (.bool false)], args := [d] }
  | _ => none }
def FnDepthOverSillsWrongFalsely : Prop := fnDepthOverSillsRow.holds Try.pinned (OpenSpec.ofChange fnDepthOverSillsWrong)

/-- 'laws.FnExactReformTrain': WHATEVER THE INPUT: true; the input reads as it did. -/
def fnExactReformTrainSpec : ChangeSpec := { name := "fnExactReformTrain", fn := fun _ => fun
  | [d1, d2] => { results := [.lit (.bool true)], args := [d1, d2] }
  | _ => none }
def fnExactReformTrainRow : OpenClaim := { program := "ytneapghhnjheaaa", sum := "99bdd30d702b3bd2ab6debb0e2fc456320ab1d2f1346a8bb5a100231cd27a079", func := "loop.example/g03317/laws.FnExactReformTrain", spec := "fnExactReformTrain", unfollowed := true, recurses := true, apart := false }
def FnExactReformTrainSaid : Prop := fnExactReformTrainRow.holds Try.pinned (OpenSpec.ofChange fnExactReformTrainSpec)

/-- ITS FALSE NEIGHBOUR: 'it returns false'. Refute it at one input. -/
def fnExactReformTrainWrong : ChangeSpec := { name := "fnExactReformTrain", fn := fun _ => fun
  | [d1, d2] => { results := [.lit (.bool false)], args := [d1, d2] }
  | _ => none }
def FnExactReformTrainWrongFalsely : Prop := fnExactReformTrainRow.holds Try.pinned (OpenSpec.ofChange fnExactReformTrainWrong)

/-- 'laws.FnExactLockOk': WHATEVER THE INPUT: true; the input reads as it did. -/
def fnExactLockOkSpec : ChangeSpec := { name := "fnExactLockOk", fn := fun _ => fun
  | [d] => { results := [.lit (.bool true)], args := [d] }
  | _ => none }
def fnExactLockOkRow : OpenClaim := { program := "ytneapghhnjheaaa", sum := "99bdd30d702b3bd2ab6debb0e2fc456320ab1d2f1346a8bb5a100231cd27a079", func := "loop.example/g03317/laws.FnExactLockOk", spec := "fnExactLockOk", unfollowed := true, recurses := true, apart := false }
def FnExactLockOkSaid : Prop := fnExactLockOkRow.holds Try.pinned (OpenSpec.ofChange fnExactLockOkSpec)

/-- ITS FALSE NEIGHBOUR: 'it returns false'. Refute it at one input. -/
def fnExactLockOkWrong : ChangeSpec := { name := "fnExactLockOk", fn := fun _ => fun
  | [d] => { results := [.lit (.bool false)], args := [d] }
  | _ => none }
def FnExactLockOkWrongFalsely : Prop := fnExactLockOkRow.holds Try.pinned (OpenSpec.ofChange fnExactLockOkWrong)

/-- 'laws.FnExactChamberLevel': WHATEVER THE INPUT: true; the input reads as it did. -/
def fnExactChamberLevelSpec : ChangeSpec := { name := "fnExactChamberLevel", fn := fun _ => fun
  | [d] => { results := [.lit (.bool true)], args := [d] }
  | _ => none }
def fnExactChamberLevelRow : OpenClaim := { program := "ytneapghhnjheaaa", sum := "99bdd30d702b3bd2ab6debb0e2fc456320ab1d2f1346a8bb5a100231cd27a079", func := "loop.example/g03317/laws.FnExactChamberLevel", spec := "fnExactChamberLevel", unfollowed := true, recurses := true, apart := false }
def FnExactChamberLevelSaid : Prop := fnExactChamberLevelRow.holds Try.pinned (OpenSpec.ofChange fnExactChamberLevelSpec)

/-- ITS FALSE NEIGHBOUR: 'it returns false'. Refute it at one input. -/
def fnExactChamberLevelWrong : ChangeSpec := { name := "fnExactChamberLevel", fn := fun _ => fun
  | [d] => { results := [.lit (.bool false)], args := [d] }
  | _ => none }
def FnExactChamberLevelWrongFalsely : Prop := fnExactChamberLevelRow.holds Try.pinned (OpenSpec.ofChange fnExactChamberLevelWrong)

/-- 'laws.FnExactFitsChamber': WHATEVER THE INPUT: true; the input reads as it did. -/
def fnExactFitsChamberSpec : ChangeSpec := { name := "fnExactFitsChamber", fn := fun _ => fun
  | [d1, d2] => { results := [.lit (.bool true)], args := [d1, d2] }
  | _ => none }
def fnExactFitsChamberRow : OpenClaim := { program := "ytneapghhnjheaaa", sum := "99bdd30d702b3bd2ab6debb0e2fc456320ab1d2f1346a8bb5a100231cd27a079", func := "loop.example/g03317/laws.FnExactFitsChamber", spec := "fnExactFitsChamber", unfollowed := true, recurses := true, apart := false }
def FnExactFitsChamberSaid : Prop := fnExactFitsChamberRow.holds Try.pinned (OpenSpec.ofChange fnExactFitsChamberSpec)

/-- ITS FALSE NEIGHBOUR: 'it returns false'. Refute it at one input. -/
def fnExactFitsChamberWrong : ChangeSpec := { name := "fnExactFitsChamber", fn := fun _ => fun
  | [d1, d2] => { results := [.lit (.bool false)], args := [d1, d2] }
  | _ => none }
def FnExactFitsChamberWrongFalsely : Prop := fnExactFitsChamberRow.holds Try.pinned (OpenSpec.ofChange fnExactFitsChamberWrong)

/-- 'laws.FnExactBestEntry': WHATEVER THE INPUT: true; the input reads as it did. -/
def fnExactBestEntrySpec : ChangeSpec := { name := "fnExactBestEntry", fn := fun _ => fun
  | [d1, d2] => { results := [.lit (.bool true)], args := [d1, d2] }
  | _ => none }
def fnExactBestEntryRow : OpenClaim := { program := "ytneapghhnjheaaa", sum := "99bdd30d702b3bd2ab6debb0e2fc456320ab1d2f1346a8bb5a100231cd27a079", func := "loop.example/g03317/laws.FnExactBestEntry", spec := "fnExactBestEntry", unfollowed := true, recurses := true, apart := false }
def FnExactBestEntrySaid : Prop := fnExactBestEntryRow.holds Try.pinned (OpenSpec.ofChange fnExactBestEntrySpec)

/-- ITS FALSE NEIGHBOUR: 'it returns false'. Refute it at one input. -/
def fnExactBestEntryWrong : ChangeSpec := { name := "fnExactBestEntry", fn := fun _ => fun
  | [d1, d2] => { results := [.lit (.bool false)], args := [d1, d2] }
  | _ => none }
def FnExactBestEntryWrongFalsely : Prop := fnExactBestEntryRow.holds Try.pinned (OpenSpec.ofChange fnExactBestEntryWrong)

/-- 'laws.FnExactShutGate': WHATEVER THE INPUT: true; the input reads as it did. -/
def fnExactShutGateSpec : ChangeSpec := { name := "fnExactShutGate", fn := fun _ => fun
  | [d] => { results := [.lit (.bool true)], args := [d] }
  | _ => none }
def fnExactShutGateRow : OpenClaim := { program := "ytneapghhnjheaaa", sum := "99bdd30d702b3bd2ab6debb0e2fc456320ab1d2f1346a8bb5a100231cd27a079", func := "loop.example/g03317/laws.FnExactShutGate", spec := "fnExactShutGate", unfollowed := true, recurses := true, apart := false }
def FnExactShutGateSaid : Prop := fnExactShutGateRow.holds Try.pinned (OpenSpec.ofChange fnExactShutGateSpec)

/-- ITS FALSE NEIGHBOUR: 'it returns false'. Refute it at one input. -/
def fnExactShutGateWrong : ChangeSpec := { name := "fnExactShutGate", fn := fun _ => fun
  | [d] => { results := [.lit (.bool false)], args := [d] }
  | _ => none }
def FnExactShutGateWrongFalsely : Prop := fnExactShutGateRow.holds Try.pinned (OpenSpec.ofChange fnExactShutGateWrong)

/- THE SECOND FORM. 'bulk': how many values and letters a reading holds, each counted each time it is reached (what is shared counts as often as it is met; a slice's spare places count too). A statement '..UptoSaid' is the law's where the arguments, and the package variables that the reading takes, are together of bulk at most 1048576: NARROWER than '..Said'. Prove '..Said' where nothing that the law and all that it calls make is longer than what came in: it says more and counts as full. Else prove '..UptoSaid'. A law counts once. -/
mutual
def uptoBulk {H : Type} : DataW H → Nat
  | .lit (.string bytes) => bytes.length + 1
  | .lit _ => 1
  | .nil => 1
  | .ptr d => uptoBulk d + 1
  | .slice elems spare => uptoBulkAll elems + uptoBulkAll spare + 1
  | .agg parts => uptoBulkAll parts + 1
  | .iface _ d => uptoBulk d + 1
  | .map entries => uptoBulkEntries entries + 1
  | .held _ => 1
def uptoBulkAll {H : Type} : List (DataW H) → Nat
  | [] => 0
  | d :: r => uptoBulk d + uptoBulkAll r
def uptoBulkEntries {H : Type} : List (Lit × DataW H) → Nat
  | [] => 0
  | x :: r => uptoBulkEntry x + uptoBulkEntries r
def uptoBulkEntry {H : Type} : Lit × DataW H → Nat
  | (.string bytes, d) => bytes.length + uptoBulk d + 1
  | (_, d) => uptoBulk d + 1
 end
def uptoSmall : (H : Type) → List (DataW H) → Bool := fun _ ds => decide (uptoBulkAll ds ≤ 1048576)
def OpenSpec.upto (s : _root_.Go.ChangeSpec) : _root_.Go.OpenSpec := { _root_.Go.OpenSpec.ofChange s with cond := some uptoSmall }

/-- 'laws.FnCoupled', WHERE WHAT IT READS IS OF BULK AT MOST 1048576: true; the input reads as it did. -/
def fnCoupledUptoRow : OpenClaim := { program := "ytneapghhnjheaaa", sum := "99bdd30d702b3bd2ab6debb0e2fc456320ab1d2f1346a8bb5a100231cd27a079", func := "loop.example/g03317/laws.FnCoupled", spec := "fnCoupled", unfollowed := true, recurses := true, apart := false, narrowed := true }
def FnCoupledUptoSaid : Prop := fnCoupledUptoRow.holds Try.pinned (OpenSpec.upto fnCoupledSpec)

/-- 'laws.FnReformed', WHERE WHAT IT READS IS OF BULK AT MOST 1048576: true; the input reads as it did. -/
def fnReformedUptoRow : OpenClaim := { program := "ytneapghhnjheaaa", sum := "99bdd30d702b3bd2ab6debb0e2fc456320ab1d2f1346a8bb5a100231cd27a079", func := "loop.example/g03317/laws.FnReformed", spec := "fnReformed", unfollowed := true, recurses := true, apart := false, narrowed := true }
def FnReformedUptoSaid : Prop := fnReformedUptoRow.holds Try.pinned (OpenSpec.upto fnReformedSpec)

/-- 'laws.FnBestEntry', WHERE WHAT IT READS IS OF BULK AT MOST 1048576: true; the input reads as it did. -/
def fnBestEntryUptoRow : OpenClaim := { program := "ytneapghhnjheaaa", sum := "99bdd30d702b3bd2ab6debb0e2fc456320ab1d2f1346a8bb5a100231cd27a079", func := "loop.example/g03317/laws.FnBestEntry", spec := "fnBestEntry", unfollowed := true, recurses := true, apart := false, narrowed := true }
def FnBestEntryUptoSaid : Prop := fnBestEntryUptoRow.holds Try.pinned (OpenSpec.upto fnBestEntrySpec)

/-- 'laws.FnFits', WHERE WHAT IT READS IS OF BULK AT MOST 1048576: true; the input reads as it did. -/
def fnFitsUptoRow : OpenClaim := { program := "ytneapghhnjheaaa", sum := "99bdd30d702b3bd2ab6debb0e2fc456320ab1d2f1346a8bb5a100231cd27a079", func := "loop.example/g03317/laws.FnFits", spec := "fnFits", unfollowed := true, recurses := true, apart := false, narrowed := true }
def FnFitsUptoSaid : Prop := fnFitsUptoRow.holds Try.pinned (OpenSpec.upto fnFitsSpec)

/-- 'laws.FnLockage', WHERE WHAT IT READS IS OF BULK AT MOST 1048576: true; the input reads as it did. -/
def fnLockageUptoRow : OpenClaim := { program := "ytneapghhnjheaaa", sum := "99bdd30d702b3bd2ab6debb0e2fc456320ab1d2f1346a8bb5a100231cd27a079", func := "loop.example/g03317/laws.FnLockage", spec := "fnLockage", unfollowed := true, recurses := true, apart := false, narrowed := true }
def FnLockageUptoSaid : Prop := fnLockageUptoRow.holds Try.pinned (OpenSpec.upto fnLockageSpec)

/-- 'laws.FnDepthOverSills', WHERE WHAT IT READS IS OF BULK AT MOST 1048576: true; the input reads as it did. -/
def fnDepthOverSillsUptoRow : OpenClaim := { program := "ytneapghhnjheaaa", sum := "99bdd30d702b3bd2ab6debb0e2fc456320ab1d2f1346a8bb5a100231cd27a079", func := "loop.example/g03317/laws.FnDepthOverSills", spec := "fnDepthOverSills", unfollowed := true, recurses := true, apart := false, narrowed := true }
def FnDepthOverSillsUptoSaid : Prop := fnDepthOverSillsUptoRow.holds Try.pinned (OpenSpec.upto fnDepthOverSillsSpec)

/-- 'laws.FnExactReformTrain', WHERE WHAT IT READS IS OF BULK AT MOST 1048576: true; the input reads as it did. -/
def fnExactReformTrainUptoRow : OpenClaim := { program := "ytneapghhnjheaaa", sum := "99bdd30d702b3bd2ab6debb0e2fc456320ab1d2f1346a8bb5a100231cd27a079", func := "loop.example/g03317/laws.FnExactReformTrain", spec := "fnExactReformTrain", unfollowed := true, recurses := true, apart := false, narrowed := true }
def FnExactReformTrainUptoSaid : Prop := fnExactReformTrainUptoRow.holds Try.pinned (OpenSpec.upto fnExactReformTrainSpec)

/-- 'laws.FnExactLockOk', WHERE WHAT IT READS IS OF BULK AT MOST 1048576: true; the input reads as it did. -/
def fnExactLockOkUptoRow : OpenClaim := { program := "ytneapghhnjheaaa", sum := "99bdd30d702b3bd2ab6debb0e2fc456320ab1d2f1346a8bb5a100231cd27a079", func := "loop.example/g03317/laws.FnExactLockOk", spec := "fnExactLockOk", unfollowed := true, recurses := true, apart := false, narrowed := true }
def FnExactLockOkUptoSaid : Prop := fnExactLockOkUptoRow.holds Try.pinned (OpenSpec.upto fnExactLockOkSpec)

/-- 'laws.FnExactChamberLevel', WHERE WHAT IT READS IS OF BULK AT MOST 1048576: true; the input reads as it did. -/
def fnExactChamberLevelUptoRow : OpenClaim := { program := "ytneapghhnjheaaa", sum := "99bdd30d702b3bd2ab6debb0e2fc456320ab1d2f1346a8bb5a100231cd27a079", func := "loop.example/g03317/laws.FnExactChamberLevel", spec := "fnExactChamberLevel", unfollowed := true, recurses := true, apart := false, narrowed := true }
def FnExactChamberLevelUptoSaid : Prop := fnExactChamberLevelUptoRow.holds Try.pinned (OpenSpec.upto fnExactChamberLevelSpec)

/-- 'laws.FnExactFitsChamber', WHERE WHAT IT READS IS OF BULK AT MOST 1048576: true; the input reads as it did. -/
def fnExactFitsChamberUptoRow : OpenClaim := { program := "ytneapghhnjheaaa", sum := "99bdd30d702b3bd2ab6debb0e2fc456320ab1d2f1346a8bb5a100231cd27a079", func := "loop.example/g03317/laws.FnExactFitsChamber", spec := "fnExactFitsChamber", unfollowed := true, recurses := true, apart := false, narrowed := true }
def FnExactFitsChamberUptoSaid : Prop := fnExactFitsChamberUptoRow.holds Try.pinned (OpenSpec.upto fnExactFitsChamberSpec)

/-- 'laws.FnExactBestEntry', WHERE WHAT IT READS IS OF BULK AT MOST 1048576: true; the input reads as it did. -/
def fnExactBestEntryUptoRow : OpenClaim := { program := "ytneapghhnjheaaa", sum := "99bdd30d702b3bd2ab6debb0e2fc456320ab1d2f1346a8bb5a100231cd27a079", func := "loop.example/g03317/laws.FnExactBestEntry", spec := "fnExactBestEntry", unfollowed := true, recurses := true, apart := false, narrowed := true }
def FnExactBestEntryUptoSaid : Prop := fnExactBestEntryUptoRow.holds Try.pinned (OpenSpec.upto fnExactBestEntrySpec)

/-- 'laws.FnExactShutGate', WHERE WHAT IT READS IS OF BULK AT MOST 1048576: true; the input reads as it did. -/
def fnExactShutGateUptoRow : OpenClaim := { program := "ytneapghhnjheaaa", sum := "99bdd30d702b3bd2ab6debb0e2fc456320ab1d2f1346a8bb5a100231cd27a079", func := "loop.example/g03317/laws.FnExactShutGate", spec := "fnExactShutGate", unfollowed := true, recurses := true, apart := false, narrowed := true }
def FnExactShutGateUptoSaid : Prop := fnExactShutGateUptoRow.holds Try.pinned (OpenSpec.upto fnExactShutGateSpec)

end Rows
end Go.Proofs.Ytneapghhnjheaaa
