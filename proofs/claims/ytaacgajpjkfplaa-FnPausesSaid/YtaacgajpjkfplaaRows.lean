/-
  No cell of these rows narrows 'for every input' (looked for: loops, veiled, ifaces, maps, wideKeys, modest, calm, conditions, laid).
  DERIVED. THE GIVEN ROWS OF THIS SEAT. 11 by the template 'for every input the law returns true; each argument reads behind the call as it read before'; 0 by the template 'total and deterministic' (their statements: YtaacgajpjkfplaaTotals.lean).
  GIVEN WITH THE SEED: the statements are not yours to turn. If you find one false, say at which input.
  Laid BY PROGRAM, IN A SANDBOX (cutbox-rows.mjs): the forced cells as the released guide's own fill.sh prints them over the translation 267db66a28321bc5… (all of the seat's roots in one cut). By AI agents, Wed Nov 11 2026. No macro, syntax, notation, axiom, sorry.
-/
import Derived.Test.YtaacgajpjkfplaaChecked
import GoSem.Claim
import GoSem.ClaimJoined
import GoSem.ClaimMapViews
import Derived.JoinedTies
import Derived.KernelRfl
namespace Go.Proofs.Ytaacgajpjkfplaa
/- THE CELL 'sum', in the pinned program and in every row, IS THE sha256 OF THE DUMP (.gsa) THAT YtaacgajpjkfplaaProg.lean LOADS. Nothing in Lean hashes anything: it is a label: what it is worth is what the hold of that sum in a sandbox is worth. -/
noncomputable def Try.pinned : Pinned := { name := "ytaacgajpjkfplaa", sum := "267db66a28321bc597845e2d0e19643a1cf2387b3d2a1693effbe710faaf33a3", checked := Try.checked }
namespace Rows
def none {H : Type} : Left H := { results := [], args := [] }

/-- 'laws.FnOneWay': WHATEVER THE INPUT: true; the input reads as it did. -/
def fnOneWaySpec : ChangeSpec := { name := "fnOneWay", fn := fun _ => fun
  | [d] => { results := [.lit (.bool true)], args := [d] }
  | _ => none }
def fnOneWayRow : OpenClaim := { program := "ytaacgajpjkfplaa", sum := "267db66a28321bc597845e2d0e19643a1cf2387b3d2a1693effbe710faaf33a3", func := "loop.example/g03317/laws.FnOneWay", spec := "fnOneWay", apart := false }
def FnOneWaySaid : Prop := fnOneWayRow.holds Try.pinned (OpenSpec.ofChange fnOneWaySpec)

/-- ITS FALSE NEIGHBOUR: 'it returns false'. Refute it at one input. -/
def fnOneWayWrong : ChangeSpec := { name := "fnOneWay", fn := fun _ => fun
  | [d] => { results := [.lit (.bool false)], args := [d] }
  | _ => none }
def FnOneWayWrongFalsely : Prop := fnOneWayRow.holds Try.pinned (OpenSpec.ofChange fnOneWayWrong)

/-- 'laws.FnPauses': WHATEVER THE INPUT: true; the input reads as it did. -/
def fnPausesSpec : ChangeSpec := { name := "fnPauses", fn := fun _ => fun
  | [d] => { results := [.lit (.bool true)], args := [d] }
  | _ => none }
def fnPausesRow : OpenClaim := { program := "ytaacgajpjkfplaa", sum := "267db66a28321bc597845e2d0e19643a1cf2387b3d2a1693effbe710faaf33a3", func := "loop.example/g03317/laws.FnPauses", spec := "fnPauses", unfollowed := true, recurses := true, apart := false }
def FnPausesSaid : Prop := fnPausesRow.holds Try.pinned (OpenSpec.ofChange fnPausesSpec)

/-- ITS FALSE NEIGHBOUR: 'it returns false'. Refute it at one input. -/
def fnPausesWrong : ChangeSpec := { name := "fnPauses", fn := fun _ => fun
  | [d] => { results := [.lit (.bool false)], args := [d] }
  | _ => none }
def FnPausesWrongFalsely : Prop := fnPausesRow.holds Try.pinned (OpenSpec.ofChange fnPausesWrong)

/-- 'laws.FnExactTurnOk': WHATEVER THE INPUT: true; the input reads as it did. -/
def fnExactTurnOkSpec : ChangeSpec := { name := "fnExactTurnOk", fn := fun _ => fun
  | [d] => { results := [.lit (.bool true)], args := [d] }
  | _ => none }
def fnExactTurnOkRow : OpenClaim := { program := "ytaacgajpjkfplaa", sum := "267db66a28321bc597845e2d0e19643a1cf2387b3d2a1693effbe710faaf33a3", func := "loop.example/g03317/laws.FnExactTurnOk", spec := "fnExactTurnOk", apart := false }
def FnExactTurnOkSaid : Prop := fnExactTurnOkRow.holds Try.pinned (OpenSpec.ofChange fnExactTurnOkSpec)

/-- ITS FALSE NEIGHBOUR: 'it returns false'. Refute it at one input. -/
def fnExactTurnOkWrong : ChangeSpec := { name := "fnExactTurnOk", fn := fun _ => fun
  | [d] => { results := [.lit (.bool false)], args := [d] }
  | _ => none }
def FnExactTurnOkWrongFalsely : Prop := fnExactTurnOkRow.holds Try.pinned (OpenSpec.ofChange fnExactTurnOkWrong)

/-- 'laws.FnExactNoteTurn': WHATEVER THE INPUT: true; the input reads as it did. -/
def fnExactNoteTurnSpec : ChangeSpec := { name := "fnExactNoteTurn", fn := fun _ => fun
  | [d1, d2] => { results := [.lit (.bool true)], args := [d1, d2] }
  | _ => none }
def fnExactNoteTurnRow : OpenClaim := { program := "ytaacgajpjkfplaa", sum := "267db66a28321bc597845e2d0e19643a1cf2387b3d2a1693effbe710faaf33a3", func := "loop.example/g03317/laws.FnExactNoteTurn", spec := "fnExactNoteTurn", apart := false }
def FnExactNoteTurnSaid : Prop := fnExactNoteTurnRow.holds Try.pinned (OpenSpec.ofChange fnExactNoteTurnSpec)

/-- ITS FALSE NEIGHBOUR: 'it returns false'. Refute it at one input. -/
def fnExactNoteTurnWrong : ChangeSpec := { name := "fnExactNoteTurn", fn := fun _ => fun
  | [d1, d2] => { results := [.lit (.bool false)], args := [d1, d2] }
  | _ => none }
def FnExactNoteTurnWrongFalsely : Prop := fnExactNoteTurnRow.holds Try.pinned (OpenSpec.ofChange fnExactNoteTurnWrong)

/-- 'laws.FnExactStretchOk': WHATEVER THE INPUT: true; the input reads as it did. -/
def fnExactStretchOkSpec : ChangeSpec := { name := "fnExactStretchOk", fn := fun _ => fun
  | [d] => { results := [.lit (.bool true)], args := [d] }
  | _ => none }
def fnExactStretchOkRow : OpenClaim := { program := "ytaacgajpjkfplaa", sum := "267db66a28321bc597845e2d0e19643a1cf2387b3d2a1693effbe710faaf33a3", func := "loop.example/g03317/laws.FnExactStretchOk", spec := "fnExactStretchOk", apart := false }
def FnExactStretchOkSaid : Prop := fnExactStretchOkRow.holds Try.pinned (OpenSpec.ofChange fnExactStretchOkSpec)

/-- ITS FALSE NEIGHBOUR: 'it returns false'. Refute it at one input. -/
def fnExactStretchOkWrong : ChangeSpec := { name := "fnExactStretchOk", fn := fun _ => fun
  | [d] => { results := [.lit (.bool false)], args := [d] }
  | _ => none }
def FnExactStretchOkWrongFalsely : Prop := fnExactStretchOkRow.holds Try.pinned (OpenSpec.ofChange fnExactStretchOkWrong)

/-- 'laws.FnExactMayPass': WHATEVER THE INPUT: true; the input reads as it did. -/
def fnExactMayPassSpec : ChangeSpec := { name := "fnExactMayPass", fn := fun _ => fun
  | [d1, d2, d3] => { results := [.lit (.bool true)], args := [d1, d2, d3] }
  | _ => none }
def fnExactMayPassRow : OpenClaim := { program := "ytaacgajpjkfplaa", sum := "267db66a28321bc597845e2d0e19643a1cf2387b3d2a1693effbe710faaf33a3", func := "loop.example/g03317/laws.FnExactMayPass", spec := "fnExactMayPass", apart := false }
def FnExactMayPassSaid : Prop := fnExactMayPassRow.holds Try.pinned (OpenSpec.ofChange fnExactMayPassSpec)

/-- ITS FALSE NEIGHBOUR: 'it returns false'. Refute it at one input. -/
def fnExactMayPassWrong : ChangeSpec := { name := "fnExactMayPass", fn := fun _ => fun
  | [d1, d2, d3] => { results := [.lit (.bool false)], args := [d1, d2, d3] }
  | _ => none }
def FnExactMayPassWrongFalsely : Prop := fnExactMayPassRow.holds Try.pinned (OpenSpec.ofChange fnExactMayPassWrong)

/-- 'laws.FnExactEnterStretch': WHATEVER THE INPUT: true; the input reads as it did. -/
def fnExactEnterStretchSpec : ChangeSpec := { name := "fnExactEnterStretch", fn := fun _ => fun
  | [d1, d2] => { results := [.lit (.bool true)], args := [d1, d2] }
  | _ => none }
def fnExactEnterStretchRow : OpenClaim := { program := "ytaacgajpjkfplaa", sum := "267db66a28321bc597845e2d0e19643a1cf2387b3d2a1693effbe710faaf33a3", func := "loop.example/g03317/laws.FnExactEnterStretch", spec := "fnExactEnterStretch", apart := false }
def FnExactEnterStretchSaid : Prop := fnExactEnterStretchRow.holds Try.pinned (OpenSpec.ofChange fnExactEnterStretchSpec)

/-- ITS FALSE NEIGHBOUR: 'it returns false'. Refute it at one input. -/
def fnExactEnterStretchWrong : ChangeSpec := { name := "fnExactEnterStretch", fn := fun _ => fun
  | [d1, d2] => { results := [.lit (.bool false)], args := [d1, d2] }
  | _ => none }
def FnExactEnterStretchWrongFalsely : Prop := fnExactEnterStretchRow.holds Try.pinned (OpenSpec.ofChange fnExactEnterStretchWrong)

/-- 'laws.FnExactLeaveStretch': WHATEVER THE INPUT: true; the input reads as it did. -/
def fnExactLeaveStretchSpec : ChangeSpec := { name := "fnExactLeaveStretch", fn := fun _ => fun
  | [d] => { results := [.lit (.bool true)], args := [d] }
  | _ => none }
def fnExactLeaveStretchRow : OpenClaim := { program := "ytaacgajpjkfplaa", sum := "267db66a28321bc597845e2d0e19643a1cf2387b3d2a1693effbe710faaf33a3", func := "loop.example/g03317/laws.FnExactLeaveStretch", spec := "fnExactLeaveStretch", apart := false }
def FnExactLeaveStretchSaid : Prop := fnExactLeaveStretchRow.holds Try.pinned (OpenSpec.ofChange fnExactLeaveStretchSpec)

/-- ITS FALSE NEIGHBOUR: 'it returns false'. Refute it at one input. -/
def fnExactLeaveStretchWrong : ChangeSpec := { name := "fnExactLeaveStretch", fn := fun _ => fun
  | [d] => { results := [.lit (.bool false)], args := [d] }
  | _ => none }
def FnExactLeaveStretchWrongFalsely : Prop := fnExactLeaveStretchRow.holds Try.pinned (OpenSpec.ofChange fnExactLeaveStretchWrong)

/-- 'laws.FnExactPausesOk': WHATEVER THE INPUT: true; the input reads as it did. -/
def fnExactPausesOkSpec : ChangeSpec := { name := "fnExactPausesOk", fn := fun _ => fun
  | [d] => { results := [.lit (.bool true)], args := [d] }
  | _ => none }
def fnExactPausesOkRow : OpenClaim := { program := "ytaacgajpjkfplaa", sum := "267db66a28321bc597845e2d0e19643a1cf2387b3d2a1693effbe710faaf33a3", func := "loop.example/g03317/laws.FnExactPausesOk", spec := "fnExactPausesOk", apart := false }
def FnExactPausesOkSaid : Prop := fnExactPausesOkRow.holds Try.pinned (OpenSpec.ofChange fnExactPausesOkSpec)

/-- ITS FALSE NEIGHBOUR: 'it returns false'. Refute it at one input. -/
def fnExactPausesOkWrong : ChangeSpec := { name := "fnExactPausesOk", fn := fun _ => fun
  | [d] => { results := [.lit (.bool false)], args := [d] }
  | _ => none }
def FnExactPausesOkWrongFalsely : Prop := fnExactPausesOkRow.holds Try.pinned (OpenSpec.ofChange fnExactPausesOkWrong)

/-- 'laws.FnExactIsOpen': WHATEVER THE INPUT: true; the input reads as it did. -/
def fnExactIsOpenSpec : ChangeSpec := { name := "fnExactIsOpen", fn := fun _ => fun
  | [d1, d2] => { results := [.lit (.bool true)], args := [d1, d2] }
  | _ => none }
def fnExactIsOpenRow : OpenClaim := { program := "ytaacgajpjkfplaa", sum := "267db66a28321bc597845e2d0e19643a1cf2387b3d2a1693effbe710faaf33a3", func := "loop.example/g03317/laws.FnExactIsOpen", spec := "fnExactIsOpen", unfollowed := true, recurses := true, apart := false }
def FnExactIsOpenSaid : Prop := fnExactIsOpenRow.holds Try.pinned (OpenSpec.ofChange fnExactIsOpenSpec)

/-- ITS FALSE NEIGHBOUR: 'it returns false'. Refute it at one input. -/
def fnExactIsOpenWrong : ChangeSpec := { name := "fnExactIsOpen", fn := fun _ => fun
  | [d1, d2] => { results := [.lit (.bool false)], args := [d1, d2] }
  | _ => none }
def FnExactIsOpenWrongFalsely : Prop := fnExactIsOpenRow.holds Try.pinned (OpenSpec.ofChange fnExactIsOpenWrong)

/-- 'laws.FnExactNextOpen': WHATEVER THE INPUT: true; the input reads as it did. -/
def fnExactNextOpenSpec : ChangeSpec := { name := "fnExactNextOpen", fn := fun _ => fun
  | [d1, d2] => { results := [.lit (.bool true)], args := [d1, d2] }
  | _ => none }
def fnExactNextOpenRow : OpenClaim := { program := "ytaacgajpjkfplaa", sum := "267db66a28321bc597845e2d0e19643a1cf2387b3d2a1693effbe710faaf33a3", func := "loop.example/g03317/laws.FnExactNextOpen", spec := "fnExactNextOpen", apart := false }
def FnExactNextOpenSaid : Prop := fnExactNextOpenRow.holds Try.pinned (OpenSpec.ofChange fnExactNextOpenSpec)

/-- ITS FALSE NEIGHBOUR: 'it returns false'. Refute it at one input. -/
def fnExactNextOpenWrong : ChangeSpec := { name := "fnExactNextOpen", fn := fun _ => fun
  | [d1, d2] => { results := [.lit (.bool false)], args := [d1, d2] }
  | _ => none }
def FnExactNextOpenWrongFalsely : Prop := fnExactNextOpenRow.holds Try.pinned (OpenSpec.ofChange fnExactNextOpenWrong)

/- THE SECOND FORM. 'bulk': how many values and letters a reading holds, each counted each time it is reached (what is shared counts as often as it is met; a slice's spare places count too). A statement '..UptoSaid' is the law's where the arguments, and the package variables that the reading takes, are together of bulk at most 1048576: NARROWER than '..Said'. Prove '..Said' where nothing that the law and all that it calls make is longer than what came in: it says more and counts as full. Else prove '..UptoSaid'. A law counts once. -/
mutual
def uptoBulk {H : Type} : DataW H → Nat
  | .lit (.string bytes) => bytes.length + 1
  | .lit _ => 1
  | .nil => 1
  | .ptr d => uptoBulk d + 1
  | .slice elems spare => uptoBulkAll elems + uptoBulkAll spare + 1
  | .agg parts => uptoBulkAll parts + 1
  | .iface _ d => uptoBulk d + 1
  | .map entries => uptoBulkEntries entries + 1
  | .held _ => 1
def uptoBulkAll {H : Type} : List (DataW H) → Nat
  | [] => 0
  | d :: r => uptoBulk d + uptoBulkAll r
def uptoBulkEntries {H : Type} : List (Lit × DataW H) → Nat
  | [] => 0
  | x :: r => uptoBulkEntry x + uptoBulkEntries r
def uptoBulkEntry {H : Type} : Lit × DataW H → Nat
  | (.string bytes, d) => bytes.length + uptoBulk d + 1
  | (_, d) => uptoBulk d + 1
 end
def uptoSmall : (H : Type) → List (DataW H) → Bool := fun _ ds => decide (uptoBulkAll ds ≤ 1048576)
def OpenSpec.upto (s : _root_.Go.ChangeSpec) : _root_.Go.OpenSpec := { _root_.Go.OpenSpec.ofChange s with cond := some uptoSmall }

/-- 'laws.FnOneWay', WHERE WHAT IT READS IS OF BULK AT MOST 1048576: true; the input reads as it did. -/
def fnOneWayUptoRow : OpenClaim := { program := "ytaacgajpjkfplaa", sum := "267db66a28321bc597845e2d0e19643a1cf2387b3d2a1693effbe710faaf33a3", func := "loop.example/g03317/laws.FnOneWay", spec := "fnOneWay", apart := false, narrowed := true }
def FnOneWayUptoSaid : Prop := fnOneWayUptoRow.holds Try.pinned (OpenSpec.upto fnOneWaySpec)

/-- 'laws.FnPauses', WHERE WHAT IT READS IS OF BULK AT MOST 1048576: true; the input reads as it did. -/
def fnPausesUptoRow : OpenClaim := { program := "ytaacgajpjkfplaa", sum := "267db66a28321bc597845e2d0e19643a1cf2387b3d2a1693effbe710faaf33a3", func := "loop.example/g03317/laws.FnPauses", spec := "fnPauses", unfollowed := true, recurses := true, apart := false, narrowed := true }
def FnPausesUptoSaid : Prop := fnPausesUptoRow.holds Try.pinned (OpenSpec.upto fnPausesSpec)

/-- 'laws.FnExactTurnOk', WHERE WHAT IT READS IS OF BULK AT MOST 1048576: true; the input reads as it did. -/
def fnExactTurnOkUptoRow : OpenClaim := { program := "ytaacgajpjkfplaa", sum := "267db66a28321bc597845e2d0e19643a1cf2387b3d2a1693effbe710faaf33a3", func := "loop.example/g03317/laws.FnExactTurnOk", spec := "fnExactTurnOk", apart := false, narrowed := true }
def FnExactTurnOkUptoSaid : Prop := fnExactTurnOkUptoRow.holds Try.pinned (OpenSpec.upto fnExactTurnOkSpec)

/-- 'laws.FnExactNoteTurn', WHERE WHAT IT READS IS OF BULK AT MOST 1048576: true; the input reads as it did. -/
def fnExactNoteTurnUptoRow : OpenClaim := { program := "ytaacgajpjkfplaa", sum := "267db66a28321bc597845e2d0e19643a1cf2387b3d2a1693effbe710faaf33a3", func := "loop.example/g03317/laws.FnExactNoteTurn", spec := "fnExactNoteTurn", apart := false, narrowed := true }
def FnExactNoteTurnUptoSaid : Prop := fnExactNoteTurnUptoRow.holds Try.pinned (OpenSpec.upto fnExactNoteTurnSpec)

/-- 'laws.FnExactStretchOk', WHERE WHAT IT READS IS OF BULK AT MOST 1048576: true; the input reads as it did. -/
def fnExactStretchOkUptoRow : OpenClaim := { program := "ytaacgajpjkfplaa", sum := "267db66a28321bc597845e2d0e19643a1cf2387b3d2a1693effbe710faaf33a3", func := "loop.example/g03317/laws.FnExactStretchOk", spec := "fnExactStretchOk", apart := false, narrowed := true }
def FnExactStretchOkUptoSaid : Prop := fnExactStretchOkUptoRow.holds Try.pinned (OpenSpec.upto fnExactStretchOkSpec)

/-- 'laws.FnExactMayPass', WHERE WHAT IT READS IS OF BULK AT MOST 1048576: true; the input reads as it did. -/
def fnExactMayPassUptoRow : OpenClaim := { program := "ytaacgajpjkfplaa", sum := "267db66a28321bc597845e2d0e19643a1cf2387b3d2a1693effbe710faaf33a3", func := "loop.example/g03317/laws.FnExactMayPass", spec := "fnExactMayPass", apart := false, narrowed := true }
def FnExactMayPassUptoSaid : Prop := fnExactMayPassUptoRow.holds Try.pinned (OpenSpec.upto fnExactMayPassSpec)

/-- 'laws.FnExactEnterStretch', WHERE WHAT IT READS IS OF BULK AT MOST 1048576: true; the input reads as it did. -/
def fnExactEnterStretchUptoRow : OpenClaim := { program := "ytaacgajpjkfplaa", sum := "267db66a28321bc597845e2d0e19643a1cf2387b3d2a1693effbe710faaf33a3", func := "loop.example/g03317/laws.FnExactEnterStretch", spec := "fnExactEnterStretch", apart := false, narrowed := true }
def FnExactEnterStretchUptoSaid : Prop := fnExactEnterStretchUptoRow.holds Try.pinned (OpenSpec.upto fnExactEnterStretchSpec)

/-- 'laws.FnExactLeaveStretch', WHERE WHAT IT READS IS OF BULK AT MOST 1048576: true; the input reads as it did. -/
def fnExactLeaveStretchUptoRow : OpenClaim := { program := "ytaacgajpjkfplaa", sum := "267db66a28321bc597845e2d0e19643a1cf2387b3d2a1693effbe710faaf33a3", func := "loop.example/g03317/laws.FnExactLeaveStretch", spec := "fnExactLeaveStretch", apart := false, narrowed := true }
def FnExactLeaveStretchUptoSaid : Prop := fnExactLeaveStretchUptoRow.holds Try.pinned (OpenSpec.upto fnExactLeaveStretchSpec)

/-- 'laws.FnExactPausesOk', WHERE WHAT IT READS IS OF BULK AT MOST 1048576: true; the input reads as it did. -/
def fnExactPausesOkUptoRow : OpenClaim := { program := "ytaacgajpjkfplaa", sum := "267db66a28321bc597845e2d0e19643a1cf2387b3d2a1693effbe710faaf33a3", func := "loop.example/g03317/laws.FnExactPausesOk", spec := "fnExactPausesOk", apart := false, narrowed := true }
def FnExactPausesOkUptoSaid : Prop := fnExactPausesOkUptoRow.holds Try.pinned (OpenSpec.upto fnExactPausesOkSpec)

/-- 'laws.FnExactIsOpen', WHERE WHAT IT READS IS OF BULK AT MOST 1048576: true; the input reads as it did. -/
def fnExactIsOpenUptoRow : OpenClaim := { program := "ytaacgajpjkfplaa", sum := "267db66a28321bc597845e2d0e19643a1cf2387b3d2a1693effbe710faaf33a3", func := "loop.example/g03317/laws.FnExactIsOpen", spec := "fnExactIsOpen", unfollowed := true, recurses := true, apart := false, narrowed := true }
def FnExactIsOpenUptoSaid : Prop := fnExactIsOpenUptoRow.holds Try.pinned (OpenSpec.upto fnExactIsOpenSpec)

/-- 'laws.FnExactNextOpen', WHERE WHAT IT READS IS OF BULK AT MOST 1048576: true; the input reads as it did. -/
def fnExactNextOpenUptoRow : OpenClaim := { program := "ytaacgajpjkfplaa", sum := "267db66a28321bc597845e2d0e19643a1cf2387b3d2a1693effbe710faaf33a3", func := "loop.example/g03317/laws.FnExactNextOpen", spec := "fnExactNextOpen", apart := false, narrowed := true }
def FnExactNextOpenUptoSaid : Prop := fnExactNextOpenUptoRow.holds Try.pinned (OpenSpec.upto fnExactNextOpenSpec)

end Rows
end Go.Proofs.Ytaacgajpjkfplaa
