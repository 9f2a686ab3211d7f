/-
  No cell of these rows narrows 'for every input' (looked for: loops, veiled, ifaces, maps, wideKeys, modest, calm, conditions, laid).
  DERIVED. THE GIVEN ROWS OF THIS SEAT. 8 by the template 'for every input the law returns true; each argument reads behind the call as it read before'; 0 by the template 'total and deterministic' (their statements: YtmabaibpdjmckaaTotals.lean).
  GIVEN WITH THE SEED: the statements are not yours to turn. If you find one false, say at which input.
  Laid BY PROGRAM, IN A SANDBOX (cutbox-rows.mjs): the forced cells as the released guide's own fill.sh prints them over the translation 88315adfcd9d8a43… (all of the seat's roots in one cut). By AI agents, Wed Nov 11 2026. No macro, syntax, notation, axiom, sorry.
-/
import Derived.Test.YtmabaibpdjmckaaChecked
import GoSem.Claim
import GoSem.ClaimJoined
import GoSem.ClaimMapViews
import Derived.JoinedTies
import Derived.KernelRfl
namespace Go.Proofs.Ytmabaibpdjmckaa
/- THE CELL 'sum', in the pinned program and in every row, IS THE sha256 OF THE DUMP (.gsa) THAT YtmabaibpdjmckaaProg.lean LOADS. Nothing in Lean hashes anything: it is a label: what it is worth is what the hold of that sum in a sandbox is worth. -/
noncomputable def Try.pinned : Pinned := { name := "ytmabaibpdjmckaa", sum := "88315adfcd9d8a43e99b090cde9a6e0b3fb4735a99c74e9b9b5e276689e06613", checked := Try.checked }
namespace Rows
def none {H : Type} : Left H := { results := [], args := [] }

/-- 'laws.FnSailing': WHATEVER THE INPUT: true; the input reads as it did. -/
def fnSailingSpec : ChangeSpec := { name := "fnSailing", fn := fun _ => fun
  | [d] => { results := [.lit (.bool true)], args := [d] }
  | _ => none }
def fnSailingRow : OpenClaim := { program := "ytmabaibpdjmckaa", sum := "88315adfcd9d8a43e99b090cde9a6e0b3fb4735a99c74e9b9b5e276689e06613", func := "loop.example/g03317/laws.FnSailing", spec := "fnSailing", unfollowed := true, recurses := true, apart := false }
def FnSailingSaid : Prop := fnSailingRow.holds Try.pinned (OpenSpec.ofChange fnSailingSpec)

/-- ITS FALSE NEIGHBOUR: 'it returns false'. Refute it at one input. -/
def fnSailingWrong : ChangeSpec := { name := "fnSailing", fn := fun _ => fun
  | [d] => { results := [.lit (.bool false)], args := [d] }
  | _ => none }
def FnSailingWrongFalsely : Prop := fnSailingRow.holds Try.pinned (OpenSpec.ofChange fnSailingWrong)

/-- 'laws.FnExactWayOk': WHATEVER THE INPUT: true; the input reads as it did. -/
def fnExactWayOkSpec : ChangeSpec := { name := "fnExactWayOk", fn := fun _ => fun
  | [d] => { results := [.lit (.bool true)], args := [d] }
  | _ => none }
def fnExactWayOkRow : OpenClaim := { program := "ytmabaibpdjmckaa", sum := "88315adfcd9d8a43e99b090cde9a6e0b3fb4735a99c74e9b9b5e276689e06613", func := "loop.example/g03317/laws.FnExactWayOk", spec := "fnExactWayOk", apart := false }
def FnExactWayOkSaid : Prop := fnExactWayOkRow.holds Try.pinned (OpenSpec.ofChange fnExactWayOkSpec)

/-- ITS FALSE NEIGHBOUR: 'it returns false'. Refute it at one input. -/
def fnExactWayOkWrong : ChangeSpec := { name := "fnExactWayOk", fn := fun _ => fun
  | [d] => { results := [.lit (.bool false)], args := [d] }
  | _ => none }
def FnExactWayOkWrongFalsely : Prop := fnExactWayOkRow.holds Try.pinned (OpenSpec.ofChange fnExactWayOkWrong)

/-- 'laws.FnExactDepthIn': WHATEVER THE INPUT: true; the input reads as it did. -/
def fnExactDepthInSpec : ChangeSpec := { name := "fnExactDepthIn", fn := fun _ => fun
  | [d1, d2] => { results := [.lit (.bool true)], args := [d1, d2] }
  | _ => none }
def fnExactDepthInRow : OpenClaim := { program := "ytmabaibpdjmckaa", sum := "88315adfcd9d8a43e99b090cde9a6e0b3fb4735a99c74e9b9b5e276689e06613", func := "loop.example/g03317/laws.FnExactDepthIn", spec := "fnExactDepthIn", apart := false }
def FnExactDepthInSaid : Prop := fnExactDepthInRow.holds Try.pinned (OpenSpec.ofChange fnExactDepthInSpec)

/-- ITS FALSE NEIGHBOUR: 'it returns false'. Refute it at one input. -/
def fnExactDepthInWrong : ChangeSpec := { name := "fnExactDepthIn", fn := fun _ => fun
  | [d1, d2] => { results := [.lit (.bool false)], args := [d1, d2] }
  | _ => none }
def FnExactDepthInWrongFalsely : Prop := fnExactDepthInRow.holds Try.pinned (OpenSpec.ofChange fnExactDepthInWrong)

/-- 'laws.FnExactPaceOf': WHATEVER THE INPUT: true; the input reads as it did. -/
def fnExactPaceOfSpec : ChangeSpec := { name := "fnExactPaceOf", fn := fun _ => fun
  | [d1, d2] => { results := [.lit (.bool true)], args := [d1, d2] }
  | _ => none }
def fnExactPaceOfRow : OpenClaim := { program := "ytmabaibpdjmckaa", sum := "88315adfcd9d8a43e99b090cde9a6e0b3fb4735a99c74e9b9b5e276689e06613", func := "loop.example/g03317/laws.FnExactPaceOf", spec := "fnExactPaceOf", unfollowed := true, recurses := true, apart := false }
def FnExactPaceOfSaid : Prop := fnExactPaceOfRow.holds Try.pinned (OpenSpec.ofChange fnExactPaceOfSpec)

/-- ITS FALSE NEIGHBOUR: 'it returns false'. Refute it at one input. -/
def fnExactPaceOfWrong : ChangeSpec := { name := "fnExactPaceOf", fn := fun _ => fun
  | [d1, d2] => { results := [.lit (.bool false)], args := [d1, d2] }
  | _ => none }
def FnExactPaceOfWrongFalsely : Prop := fnExactPaceOfRow.holds Try.pinned (OpenSpec.ofChange fnExactPaceOfWrong)

/-- 'laws.FnExactMoverOk': WHATEVER THE INPUT: true; the input reads as it did. -/
def fnExactMoverOkSpec : ChangeSpec := { name := "fnExactMoverOk", fn := fun _ => fun
  | [d1, d2] => { results := [.lit (.bool true)], args := [d1, d2] }
  | _ => none }
def fnExactMoverOkRow : OpenClaim := { program := "ytmabaibpdjmckaa", sum := "88315adfcd9d8a43e99b090cde9a6e0b3fb4735a99c74e9b9b5e276689e06613", func := "loop.example/g03317/laws.FnExactMoverOk", spec := "fnExactMoverOk", unfollowed := true, recurses := true, apart := false }
def FnExactMoverOkSaid : Prop := fnExactMoverOkRow.holds Try.pinned (OpenSpec.ofChange fnExactMoverOkSpec)

/-- ITS FALSE NEIGHBOUR: 'it returns false'. Refute it at one input. -/
def fnExactMoverOkWrong : ChangeSpec := { name := "fnExactMoverOk", fn := fun _ => fun
  | [d1, d2] => { results := [.lit (.bool false)], args := [d1, d2] }
  | _ => none }
def FnExactMoverOkWrongFalsely : Prop := fnExactMoverOkRow.holds Try.pinned (OpenSpec.ofChange fnExactMoverOkWrong)

/-- 'laws.FnExactAtEnd': WHATEVER THE INPUT: true; the input reads as it did. -/
def fnExactAtEndSpec : ChangeSpec := { name := "fnExactAtEnd", fn := fun _ => fun
  | [d1, d2] => { results := [.lit (.bool true)], args := [d1, d2] }
  | _ => none }
def fnExactAtEndRow : OpenClaim := { program := "ytmabaibpdjmckaa", sum := "88315adfcd9d8a43e99b090cde9a6e0b3fb4735a99c74e9b9b5e276689e06613", func := "loop.example/g03317/laws.FnExactAtEnd", spec := "fnExactAtEnd", unfollowed := true, recurses := true, apart := false }
def FnExactAtEndSaid : Prop := fnExactAtEndRow.holds Try.pinned (OpenSpec.ofChange fnExactAtEndSpec)

/-- ITS FALSE NEIGHBOUR: 'it returns false'. Refute it at one input. -/
def fnExactAtEndWrong : ChangeSpec := { name := "fnExactAtEnd", fn := fun _ => fun
  | [d1, d2] => { results := [.lit (.bool false)], args := [d1, d2] }
  | _ => none }
def FnExactAtEndWrongFalsely : Prop := fnExactAtEndRow.holds Try.pinned (OpenSpec.ofChange fnExactAtEndWrong)

/-- 'laws.FnExactTimeTo': WHATEVER THE INPUT: true; the input reads as it did. -/
def fnExactTimeToSpec : ChangeSpec := { name := "fnExactTimeTo", fn := fun _ => fun
  | [d1, d2, d3] => { results := [.lit (.bool true)], args := [d1, d2, d3] }
  | _ => none }
def fnExactTimeToRow : OpenClaim := { program := "ytmabaibpdjmckaa", sum := "88315adfcd9d8a43e99b090cde9a6e0b3fb4735a99c74e9b9b5e276689e06613", func := "loop.example/g03317/laws.FnExactTimeTo", spec := "fnExactTimeTo", unfollowed := true, recurses := true, apart := false }
def FnExactTimeToSaid : Prop := fnExactTimeToRow.holds Try.pinned (OpenSpec.ofChange fnExactTimeToSpec)

/-- ITS FALSE NEIGHBOUR: 'it returns false'. Refute it at one input. -/
def fnExactTimeToWrong : ChangeSpec := { name := "fnExactTimeTo", fn := fun _ => fun
  | [d1, d2, d3] => { results := [.lit (.bool false)], args := [d1, d2, d3] }
  | _ => none }
def FnExactTimeToWrongFalsely : Prop := fnExactTimeToRow.holds Try.pinned (OpenSpec.ofChange fnExactTimeToWrong)

/-- 'laws.FnExactGroundedOf': WHATEVER THE INPUT: true; the input reads as it did. -/
def fnExactGroundedOfSpec : ChangeSpec := { name := "fnExactGroundedOf", fn := fun _ => fun
  | [d1, d2, d3] => { results := [.lit (.bool true)], args := [d1, d2, d3] }
  | _ => none }
def fnExactGroundedOfRow : OpenClaim := { program := "ytmabaibpdjmckaa", sum := "88315adfcd9d8a43e99b090cde9a6e0b3fb4735a99c74e9b9b5e276689e06613", func := "loop.example/g03317/laws.FnExactGroundedOf", spec := "fnExactGroundedOf", unfollowed := true, recurses := true, apart := false }
def FnExactGroundedOfSaid : Prop := fnExactGroundedOfRow.holds Try.pinned (OpenSpec.ofChange fnExactGroundedOfSpec)

/-- ITS FALSE NEIGHBOUR: 'it returns false'. Refute it at one input. -/
def fnExactGroundedOfWrong : ChangeSpec := { name := "fnExactGroundedOf", fn := fun _ => fun
  | [d1, d2, d3] => { results := [.lit (.bool false)], args := [d1, d2, d3] }
  | _ => none }
def FnExactGroundedOfWrongFalsely : Prop := fnExactGroundedOfRow.holds Try.pinned (OpenSpec.ofChange fnExactGroundedOfWrong)

/- THE SECOND FORM. 'bulk': how many values and letters a reading holds, each counted each time it is reached (what is shared counts as often as it is met; a slice's spare places count too). A statement '..UptoSaid' is the law's where the arguments, and the package variables that the reading takes, are together of bulk at most 1048576: NARROWER than '..Said'. Prove '..Said' where nothing that the law and all that it calls make is longer than what came in: it says more and counts as full. Else prove '..UptoSaid'. A law counts once. -/
mutual
def uptoBulk {H : Type} : DataW H → Nat
  | .lit (.string bytes) => bytes.length + 1
  | .lit _ => 1
  | .nil => 1
  | .ptr d => uptoBulk d + 1
  | .slice elems spare => uptoBulkAll elems + uptoBulkAll spare + 1
  | .agg parts => uptoBulkAll parts + 1
  | .iface _ d => uptoBulk d + 1
  | .map entries => uptoBulkEntries entries + 1
  | .held _ => 1
def uptoBulkAll {H : Type} : List (DataW H) → Nat
  | [] => 0
  | d :: r => uptoBulk d + uptoBulkAll r
def uptoBulkEntries {H : Type} : List (Lit × DataW H) → Nat
  | [] => 0
  | x :: r => uptoBulkEntry x + uptoBulkEntries r
def uptoBulkEntry {H : Type} : Lit × DataW H → Nat
  | (.string bytes, d) => bytes.length + uptoBulk d + 1
  | (_, d) => uptoBulk d + 1
 end
def uptoSmall : (H : Type) → List (DataW H) → Bool := fun _ ds => decide (uptoBulkAll ds ≤ 1048576)
def OpenSpec.upto (s : _root_.Go.ChangeSpec) : _root_.Go.OpenSpec := { _root_.Go.OpenSpec.ofChange s with cond := some uptoSmall }

/-- 'laws.FnSailing', WHERE WHAT IT READS IS OF BULK AT MOST 1048576: true; the input reads as it did. -/
def fnSailingUptoRow : OpenClaim := { program := "ytmabaibpdjmckaa", sum := "88315adfcd9d8a43e99b090cde9a6e0b3fb4735a99c74e9b9b5e276689e06613", func := "loop.example/g03317/laws.FnSailing", spec := "fnSailing", unfollowed := true, recurses := true, apart := false, narrowed := true }
def FnSailingUptoSaid : Prop := fnSailingUptoRow.holds Try.pinned (OpenSpec.upto fnSailingSpec)

/-- 'laws.FnExactWayOk', WHERE WHAT IT READS IS OF BULK AT MOST 1048576: true; the input reads as it did. -/
def fnExactWayOkUptoRow : OpenClaim := { program := "ytmabaibpdjmckaa", sum := "88315adfcd9d8a43e99b090cde9a6e0b3fb4735a99c74e9b9b5e276689e06613", func := "loop.example/g03317/laws.FnExactWayOk", spec := "fnExactWayOk", apart := false, narrowed := true }
def FnExactWayOkUptoSaid : Prop := fnExactWayOkUptoRow.holds Try.pinned (OpenSpec.upto fnExactWayOkSpec)

/-- 'laws.FnExactDepthIn', WHERE WHAT IT READS IS OF BULK AT MOST 1048576: true; the input reads as it did. -/
def fnExactDepthInUptoRow : OpenClaim := { program := "ytmabaibpdjmckaa", sum := "88315adfcd9d8a43e99b090cde9a6e0b3fb4735a99c74e9b9b5e276689e06613", func := "loop.example/g03317/laws.FnExactDepthIn", spec := "fnExactDepthIn", apart := false, narrowed := true }
def FnExactDepthInUptoSaid : Prop := fnExactDepthInUptoRow.holds Try.pinned (OpenSpec.upto fnExactDepthInSpec)

/-- 'laws.FnExactPaceOf', WHERE WHAT IT READS IS OF BULK AT MOST 1048576: true; the input reads as it did. -/
def fnExactPaceOfUptoRow : OpenClaim := { program := "ytmabaibpdjmckaa", sum := "88315adfcd9d8a43e99b090cde9a6e0b3fb4735a99c74e9b9b5e276689e06613", func := "loop.example/g03317/laws.FnExactPaceOf", spec := "fnExactPaceOf", unfollowed := true, recurses := true, apart := false, narrowed := true }
def FnExactPaceOfUptoSaid : Prop := fnExactPaceOfUptoRow.holds Try.pinned (OpenSpec.upto fnExactPaceOfSpec)

/-- 'laws.FnExactMoverOk', WHERE WHAT IT READS IS OF BULK AT MOST 1048576: true; the input reads as it did. -/
def fnExactMoverOkUptoRow : OpenClaim := { program := "ytmabaibpdjmckaa", sum := "88315adfcd9d8a43e99b090cde9a6e0b3fb4735a99c74e9b9b5e276689e06613", func := "loop.example/g03317/laws.FnExactMoverOk", spec := "fnExactMoverOk", unfollowed := true, recurses := true, apart := false, narrowed := true }
def FnExactMoverOkUptoSaid : Prop := fnExactMoverOkUptoRow.holds Try.pinned (OpenSpec.upto fnExactMoverOkSpec)

/-- 'laws.FnExactAtEnd', WHERE WHAT IT READS IS OF BULK AT MOST 1048576: true; the input reads as it did. -/
def fnExactAtEndUptoRow : OpenClaim := { program := "ytmabaibpdjmckaa", sum := "88315adfcd9d8a43e99b090cde9a6e0b3fb4735a99c74e9b9b5e276689e06613", func := "loop.example/g03317/laws.FnExactAtEnd", spec := "fnExactAtEnd", unfollowed := true, recurses := true, apart := false, narrowed := true }
def FnExactAtEndUptoSaid : Prop := fnExactAtEndUptoRow.holds Try.pinned (OpenSpec.upto fnExactAtEndSpec)

/-- 'laws.FnExactTimeTo', WHERE WHAT IT READS IS OF BULK AT MOST 1048576: true; the input reads as it did. -/
def fnExactTimeToUptoRow : OpenClaim := { program := "ytmabaibpdjmckaa", sum := "88315adfcd9d8a43e99b090cde9a6e0b3fb4735a99c74e9b9b5e276689e06613", func := "loop.example/g03317/laws.FnExactTimeTo", spec := "fnExactTimeTo", unfollowed := true, recurses := true, apart := false, narrowed := true }
def FnExactTimeToUptoSaid : Prop := fnExactTimeToUptoRow.holds Try.pinned (OpenSpec.upto fnExactTimeToSpec)

/-- 'laws.FnExactGroundedOf', WHERE WHAT IT READS IS OF BULK AT MOST 1048576: true; the input reads as it did. -/
def fnExactGroundedOfUptoRow : OpenClaim := { program := "ytmabaibpdjmckaa", sum := "88315adfcd9d8a43e99b090cde9a6e0b3fb4735a99c74e9b9b5e276689e06613", func := "loop.example/g03317/laws.FnExactGroundedOf", spec := "fnExactGroundedOf", unfollowed := true, recurses := true, apart := false, narrowed := true }
def FnExactGroundedOfUptoSaid : Prop := fnExactGroundedOfUptoRow.holds Try.pinned (OpenSpec.upto fnExactGroundedOfSpec)

end Rows
end Go.Proofs.Ytmabaibpdjmckaa
