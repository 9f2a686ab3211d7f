/-
  No cell of these rows narrows 'for every input' (looked for: loops, veiled, ifaces, maps, wideKeys, modest, calm, conditions, laid).
  DERIVED. THE GIVEN ROWS OF THIS SEAT. 8 by the template 'for every input the law returns true; each argument reads behind the call as it read before'; 0 by the template 'total and deterministic' (their statements: YtacnjipmojlpnaaTotals.lean).
  GIVEN WITH THE SEED: the statements are not yours to turn. If you find one false, say at which input.
  Laid BY PROGRAM, IN A SANDBOX (cutbox-rows.mjs): the forced cells as the released guide's own fill.sh prints them over the translation 539c7169b149b2ba… (all of the seat's roots in one cut). By AI agents, Wed Nov 11 2026. No macro, syntax, notation, axiom, sorry.
-/
import Derived.Test.YtacnjipmojlpnaaChecked
import GoSem.Claim
import GoSem.ClaimJoined
import GoSem.ClaimMapViews
import Derived.JoinedTies
import Derived.KernelRfl
namespace Go.Proofs.Ytacnjipmojlpnaa
/- THE CELL 'sum', in the pinned program and in every row, IS THE sha256 OF THE DUMP (.gsa) THAT YtacnjipmojlpnaaProg.lean LOADS. Nothing in Lean hashes anything: it is a label: what it is worth is what the hold of that sum in a sandbox is worth. -/
noncomputable def Try.pinned : Pinned := { name := "ytacnjipmojlpnaa", sum := "539c7169b149b2bad4a966887c6de11c00315a6ca7483b70fc21c1e9947fbf95", checked := Try.checked }
namespace Rows
def none {H : Type} : Left H := { results := [], args := [] }

/-- 'laws.FnCallOrder': WHATEVER THE INPUT: true; the input reads as it did. -/
def fnCallOrderSpec : ChangeSpec := { name := "fnCallOrder", fn := fun _ => fun
  | [d] => { results := [.lit (.bool true)], args := [d] }
  | _ => none }
def fnCallOrderRow : OpenClaim := { program := "ytacnjipmojlpnaa", sum := "539c7169b149b2bad4a966887c6de11c00315a6ca7483b70fc21c1e9947fbf95", func := "loop.example/g03317/laws.FnCallOrder", spec := "fnCallOrder", unfollowed := true, recurses := true, apart := false }
def FnCallOrderSaid : Prop := fnCallOrderRow.holds Try.pinned (OpenSpec.ofChange fnCallOrderSpec)

/-- ITS FALSE NEIGHBOUR: 'it returns false'. Refute it at one input. -/
def fnCallOrderWrong : ChangeSpec := { name := "fnCallOrder", fn := fun _ => fun
  | [d] => { results := [.lit (.bool false)], args := [d] }
  | _ => none }
def FnCallOrderWrongFalsely : Prop := fnCallOrderRow.holds Try.pinned (OpenSpec.ofChange fnCallOrderWrong)

/-- 'laws.FnNobodyWaits': WHATEVER THE INPUT: true; the input reads as it did. -/
def fnNobodyWaitsSpec : ChangeSpec := { name := "fnNobodyWaits", fn := fun _ => fun
  | [d] => { results := [.lit (.bool true)], args := [d] }
  | _ => none }
def fnNobodyWaitsRow : OpenClaim := { program := "ytacnjipmojlpnaa", sum := "539c7169b149b2bad4a966887c6de11c00315a6ca7483b70fc21c1e9947fbf95", func := "loop.example/g03317/laws.FnNobodyWaits", spec := "fnNobodyWaits", unfollowed := true, recurses := true, apart := false }
def FnNobodyWaitsSaid : Prop := fnNobodyWaitsRow.holds Try.pinned (OpenSpec.ofChange fnNobodyWaitsSpec)

/-- ITS FALSE NEIGHBOUR: 'it returns false'. Refute it at one input. -/
def fnNobodyWaitsWrong : ChangeSpec := { name := "fnNobodyWaits", fn := fun _ => fun
  | [d] => { results := [.lit (.bool false)], args := [d] }
  | _ => none }
def FnNobodyWaitsWrongFalsely : Prop := fnNobodyWaitsRow.holds Try.pinned (OpenSpec.ofChange fnNobodyWaitsWrong)

/-- 'laws.FnTurns': WHATEVER THE INPUT: true; the input reads as it did. -/
def fnTurnsSpec : ChangeSpec := { name := "fnTurns", fn := fun _ => fun
  | [d] => { results := [.lit (.bool true)], args := [d] }
  | _ => none }
def fnTurnsRow : OpenClaim := { program := "ytacnjipmojlpnaa", sum := "539c7169b149b2bad4a966887c6de11c00315a6ca7483b70fc21c1e9947fbf95", func := "loop.example/g03317/laws.FnTurns", spec := "fnTurns", unfollowed := true, recurses := true, apart := false }
def FnTurnsSaid : Prop := fnTurnsRow.holds Try.pinned (OpenSpec.ofChange fnTurnsSpec)

/-- ITS FALSE NEIGHBOUR: 'it returns false'. Refute it at one input. -/
def fnTurnsWrong : ChangeSpec := { name := "fnTurns", fn := fun _ => fun
  | [d] => { results := [.lit (.bool false)], args := [d] }
  | _ => none }
def FnTurnsWrongFalsely : Prop := fnTurnsRow.holds Try.pinned (OpenSpec.ofChange fnTurnsWrong)

/-- 'laws.FnExactCallOk': WHATEVER THE INPUT: true; the input reads as it did. -/
def fnExactCallOkSpec : ChangeSpec := { name := "fnExactCallOk", fn := fun _ => fun
  | [d] => { results := [.lit (.bool true)], args := [d] }
  | _ => none }
def fnExactCallOkRow : OpenClaim := { program := "ytacnjipmojlpnaa", sum := "539c7169b149b2bad4a966887c6de11c00315a6ca7483b70fc21c1e9947fbf95", func := "loop.example/g03317/laws.FnExactCallOk", spec := "fnExactCallOk", unfollowed := true, recurses := true, apart := false }
def FnExactCallOkSaid : Prop := fnExactCallOkRow.holds Try.pinned (OpenSpec.ofChange fnExactCallOkSpec)

/-- ITS FALSE NEIGHBOUR: 'it returns false'. Refute it at one input. -/
def fnExactCallOkWrong : ChangeSpec := { name := "fnExactCallOk", fn := fun _ => fun
  | [d] => { results := [.lit (.bool false)], args := [d] }
  | _ => none }
def FnExactCallOkWrongFalsely : Prop := fnExactCallOkRow.holds Try.pinned (OpenSpec.ofChange fnExactCallOkWrong)

/-- 'laws.FnExactRankOf': WHATEVER THE INPUT: true; the input reads as it did. -/
def fnExactRankOfSpec : ChangeSpec := { name := "fnExactRankOf", fn := fun _ => fun
  | [d1, d2] => { results := [.lit (.bool true)], args := [d1, d2] }
  | _ => none }
def fnExactRankOfRow : OpenClaim := { program := "ytacnjipmojlpnaa", sum := "539c7169b149b2bad4a966887c6de11c00315a6ca7483b70fc21c1e9947fbf95", func := "loop.example/g03317/laws.FnExactRankOf", spec := "fnExactRankOf", unfollowed := true, recurses := true, apart := false }
def FnExactRankOfSaid : Prop := fnExactRankOfRow.holds Try.pinned (OpenSpec.ofChange fnExactRankOfSpec)

/-- ITS FALSE NEIGHBOUR: 'it returns false'. Refute it at one input. -/
def fnExactRankOfWrong : ChangeSpec := { name := "fnExactRankOf", fn := fun _ => fun
  | [d1, d2] => { results := [.lit (.bool false)], args := [d1, d2] }
  | _ => none }
def FnExactRankOfWrongFalsely : Prop := fnExactRankOfRow.holds Try.pinned (OpenSpec.ofChange fnExactRankOfWrong)

/-- 'laws.FnExactComesBefore': WHATEVER THE INPUT: true; the input reads as it did. -/
def fnExactComesBeforeSpec : ChangeSpec := { name := "fnExactComesBefore", fn := fun _ => fun
  | [d1, d2, d3] => { results := [.lit (.bool true)], args := [d1, d2, d3] }
  | _ => none }
def fnExactComesBeforeRow : OpenClaim := { program := "ytacnjipmojlpnaa", sum := "539c7169b149b2bad4a966887c6de11c00315a6ca7483b70fc21c1e9947fbf95", func := "loop.example/g03317/laws.FnExactComesBefore", spec := "fnExactComesBefore", unfollowed := true, recurses := true, apart := false }
def FnExactComesBeforeSaid : Prop := fnExactComesBeforeRow.holds Try.pinned (OpenSpec.ofChange fnExactComesBeforeSpec)

/-- ITS FALSE NEIGHBOUR: 'it returns false'. Refute it at one input. -/
def fnExactComesBeforeWrong : ChangeSpec := { name := "fnExactComesBefore", fn := fun _ => fun
  | [d1, d2, d3] => { results := [.lit (.bool false)], args := [d1, d2, d3] }
  | _ => none }
def FnExactComesBeforeWrongFalsely : Prop := fnExactComesBeforeRow.holds Try.pinned (OpenSpec.ofChange fnExactComesBeforeWrong)

/-- 'laws.FnExactOrderCalls': WHATEVER THE INPUT: true; the input reads as it did. -/
def fnExactOrderCallsSpec : ChangeSpec := { name := "fnExactOrderCalls", fn := fun _ => fun
  | [d1, d2] => { results := [.lit (.bool true)], args := [d1, d2] }
  | _ => none }
def fnExactOrderCallsRow : OpenClaim := { program := "ytacnjipmojlpnaa", sum := "539c7169b149b2bad4a966887c6de11c00315a6ca7483b70fc21c1e9947fbf95", func := "loop.example/g03317/laws.FnExactOrderCalls", spec := "fnExactOrderCalls", unfollowed := true, recurses := true, apart := false }
def FnExactOrderCallsSaid : Prop := fnExactOrderCallsRow.holds Try.pinned (OpenSpec.ofChange fnExactOrderCallsSpec)

/-- ITS FALSE NEIGHBOUR: 'it returns false'. Refute it at one input. -/
def fnExactOrderCallsWrong : ChangeSpec := { name := "fnExactOrderCalls", fn := fun _ => fun
  | [d1, d2] => { results := [.lit (.bool false)], args := [d1, d2] }
  | _ => none }
def FnExactOrderCallsWrongFalsely : Prop := fnExactOrderCallsRow.holds Try.pinned (OpenSpec.ofChange fnExactOrderCallsWrong)

/-- 'laws.FnExactNextSide': WHATEVER THE INPUT: true; the input reads as it did. -/
def fnExactNextSideSpec : ChangeSpec := { name := "fnExactNextSide", fn := fun _ => fun
  | [d1, d2, d3] => { results := [.lit (.bool true)], args := [d1, d2, d3] }
  | _ => none }
def fnExactNextSideRow : OpenClaim := { program := "ytacnjipmojlpnaa", sum := "539c7169b149b2bad4a966887c6de11c00315a6ca7483b70fc21c1e9947fbf95", func := "loop.example/g03317/laws.FnExactNextSide", spec := "fnExactNextSide", unfollowed := true, recurses := true, apart := false }
def FnExactNextSideSaid : Prop := fnExactNextSideRow.holds Try.pinned (OpenSpec.ofChange fnExactNextSideSpec)

/-- ITS FALSE NEIGHBOUR: 'it returns false'. Refute it at one input. -/
def fnExactNextSideWrong : ChangeSpec := { name := "fnExactNextSide", fn := fun _ => fun
  | [d1, d2, d3] => { results := [.lit (.bool false)], args := [d1, d2, d3] }
  | _ => none }
def FnExactNextSideWrongFalsely : Prop := fnExactNextSideRow.holds Try.pinned (OpenSpec.ofChange fnExactNextSideWrong)

/- THE SECOND FORM. 'bulk': how many values and letters a reading holds, each counted each time it is reached (what is shared counts as often as it is met; a slice's spare places count too). A statement '..UptoSaid' is the law's where the arguments, and the package variables that the reading takes, are together of bulk at most 1048576: NARROWER than '..Said'. Prove '..Said' where nothing that the law and all that it calls make is longer than what came in: it says more and counts as full. Else prove '..UptoSaid'. A law counts once. -/
mutual
def uptoBulk {H : Type} : DataW H → Nat
  | .lit (.string bytes) => bytes.length + 1
  | .lit _ => 1
  | .nil => 1
  | .ptr d => uptoBulk d + 1
  | .slice elems spare => uptoBulkAll elems + uptoBulkAll spare + 1
  | .agg parts => uptoBulkAll parts + 1
  | .iface _ d => uptoBulk d + 1
  | .map entries => uptoBulkEntries entries + 1
  | .held _ => 1
def uptoBulkAll {H : Type} : List (DataW H) → Nat
  | [] => 0
  | d :: r => uptoBulk d + uptoBulkAll r
def uptoBulkEntries {H : Type} : List (Lit × DataW H) → Nat
  | [] => 0
  | x :: r => uptoBulkEntry x + uptoBulkEntries r
def uptoBulkEntry {H : Type} : Lit × DataW H → Nat
  | (.string bytes, d) => bytes.length + uptoBulk d + 1
  | (_, d) => uptoBulk d + 1
 end
def uptoSmall : (H : Type) → List (DataW H) → Bool := fun _ ds => decide (uptoBulkAll ds ≤ 1048576)
def OpenSpec.upto (s : _root_.Go.ChangeSpec) : _root_.Go.OpenSpec := { _root_.Go.OpenSpec.ofChange s with cond := some uptoSmall }

/-- 'laws.FnCallOrder', WHERE WHAT IT READS IS OF BULK AT MOST 1048576: true; the input reads as it did. -/
def fnCallOrderUptoRow : OpenClaim := { program := "ytacnjipmojlpnaa", sum := "539c7169b149b2bad4a966887c6de11c00315a6ca7483b70fc21c1e9947fbf95", func := "loop.example/g03317/laws.FnCallOrder", spec := "fnCallOrder", unfollowed := true, recurses := true, apart := false, narrowed := true }
def FnCallOrderUptoSaid : Prop := fnCallOrderUptoRow.holds Try.pinned (OpenSpec.upto fnCallOrderSpec)

/-- 'laws.FnNobodyWaits', WHERE WHAT IT READS IS OF BULK AT MOST 1048576: true; the input reads as it did. -/
def fnNobodyWaitsUptoRow : OpenClaim := { program := "ytacnjipmojlpnaa", sum := "539c7169b149b2bad4a966887c6de11c00315a6ca7483b70fc21c1e9947fbf95", func := "loop.example/g03317/laws.FnNobodyWaits", spec := "fnNobodyWaits", unfollowed := true, recurses := true, apart := false, narrowed := true }
def FnNobodyWaitsUptoSaid : Prop := fnNobodyWaitsUptoRow.holds Try.pinned (OpenSpec.upto fnNobodyWaitsSpec)

/-- 'laws.FnTurns', WHERE WHAT IT READS IS OF BULK AT MOST 1048576: true; the input reads as it did. -/
def fnTurnsUptoRow : OpenClaim := { program := "ytacnjipmojlpnaa", sum := "539c7169b149b2bad4a966887c6de11c00315a6ca7483b70fc21c1e9947fbf95", func := "loop.example/g03317/laws.FnTurns", spec := "fnTurns", unfollowed := true, recurses := true, apart := false, narrowed := true }
def FnTurnsUptoSaid : Prop := fnTurnsUptoRow.holds Try.pinned (OpenSpec.upto fnTurnsSpec)

/-- 'laws.FnExactCallOk', WHERE WHAT IT READS IS OF BULK AT MOST 1048576: true; the input reads as it did. -/
def fnExactCallOkUptoRow : OpenClaim := { program := "ytacnjipmojlpnaa", sum := "539c7169b149b2bad4a966887c6de11c00315a6ca7483b70fc21c1e9947fbf95", func := "loop.example/g03317/laws.FnExactCallOk", spec := "fnExactCallOk", unfollowed := true, recurses := true, apart := false, narrowed := true }
def FnExactCallOkUptoSaid : Prop := fnExactCallOkUptoRow.holds Try.pinned (OpenSpec.upto fnExactCallOkSpec)

/-- 'laws.FnExactRankOf', WHERE WHAT IT READS IS OF BULK AT MOST 1048576: true; the input reads as it did. -/
def fnExactRankOfUptoRow : OpenClaim := { program := "ytacnjipmojlpnaa", sum := "539c7169b149b2bad4a966887c6de11c00315a6ca7483b70fc21c1e9947fbf95", func := "loop.example/g03317/laws.FnExactRankOf", spec := "fnExactRankOf", unfollowed := true, recurses := true, apart := false, narrowed := true }
def FnExactRankOfUptoSaid : Prop := fnExactRankOfUptoRow.holds Try.pinned (OpenSpec.upto fnExactRankOfSpec)

/-- 'laws.FnExactComesBefore', WHERE WHAT IT READS IS OF BULK AT MOST 1048576: true; the input reads as it did. -/
def fnExactComesBeforeUptoRow : OpenClaim := { program := "ytacnjipmojlpnaa", sum := "539c7169b149b2bad4a966887c6de11c00315a6ca7483b70fc21c1e9947fbf95", func := "loop.example/g03317/laws.FnExactComesBefore", spec := "fnExactComesBefore", unfollowed := true, recurses := true, apart := false, narrowed := true }
def FnExactComesBeforeUptoSaid : Prop := fnExactComesBeforeUptoRow.holds Try.pinned (OpenSpec.upto fnExactComesBeforeSpec)

/-- 'laws.FnExactOrderCalls', WHERE WHAT IT READS IS OF BULK AT MOST 1048576: true; the input reads as it did. -/
def fnExactOrderCallsUptoRow : OpenClaim := { program := "ytacnjipmojlpnaa", sum := "539c7169b149b2bad4a966887c6de11c00315a6ca7483b70fc21c1e9947fbf95", func := "loop.example/g03317/laws.FnExactOrderCalls", spec := "fnExactOrderCalls", unfollowed := true, recurses := true, apart := false, narrowed := true }
def FnExactOrderCallsUptoSaid : Prop := fnExactOrderCallsUptoRow.holds Try.pinned (OpenSpec.upto fnExactOrderCallsSpec)

/-- 'laws.FnExactNextSide', WHERE WHAT IT READS IS OF BULK AT MOST 1048576: true; the input reads as it did. -/
def fnExactNextSideUptoRow : OpenClaim := { program := "ytacnjipmojlpnaa", sum := "539c7169b149b2bad4a966887c6de11c00315a6ca7483b70fc21c1e9947fbf95", func := "loop.example/g03317/laws.FnExactNextSide", spec := "fnExactNextSide", unfollowed := true, recurses := true, apart := false, narrowed := true }
def FnExactNextSideUptoSaid : Prop := fnExactNextSideUptoRow.holds Try.pinned (OpenSpec.upto fnExactNextSideSpec)

end Rows
end Go.Proofs.Ytacnjipmojlpnaa
