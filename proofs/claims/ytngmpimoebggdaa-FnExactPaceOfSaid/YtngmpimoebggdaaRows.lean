/-
  No cell of these rows narrows 'for every input' (looked for: loops, veiled, ifaces, maps, wideKeys, modest, calm, conditions, laid).
  DERIVED. THE GIVEN ROWS OF THIS SEAT. 11 by the template 'for every input the law returns true; each argument reads behind the call as it read before'; 0 by the template 'total and deterministic' (their statements: YtngmpimoebggdaaTotals.lean).
  GIVEN WITH THE SEED: the statements are not yours to turn. If you find one false, say at which input.
  Laid BY PROGRAM, IN A SANDBOX (cutbox-rows.mjs): the forced cells as the released guide's own fill.sh prints them over the translation 016cafa193924912… (all of the seat's roots in one cut). By AI agents, Wed Nov 11 2026. No macro, syntax, notation, axiom, sorry.
-/
import Derived.Test.YtngmpimoebggdaaChecked
import GoSem.Claim
import GoSem.ClaimJoined
import GoSem.ClaimMapViews
import Derived.JoinedTies
import Derived.KernelRfl
namespace Go.Proofs.Ytngmpimoebggdaa
/- THE CELL 'sum', in the pinned program and in every row, IS THE sha256 OF THE DUMP (.gsa) THAT YtngmpimoebggdaaProg.lean LOADS. Nothing in Lean hashes anything: it is a label: what it is worth is what the hold of that sum in a sandbox is worth. -/
noncomputable def Try.pinned : Pinned := { name := "ytngmpimoebggdaa", sum := "016cafa193924912bf734d6195dc0db069e36dfbdf9120552e93edbfdc55a0b1", checked := Try.checked }
namespace Rows
def none {H : Type} : Left H := { results := [], args := [] }

/-- 'laws.FnExactPaceOf': WHATEVER THE INPUT: true; the input reads as it did. -/
def fnExactPaceOfSpec : ChangeSpec := { name := "fnExactPaceOf", fn := fun _ => fun
  | [d1, d2] => { results := [.lit (.bool true)], args := [d1, d2] }
  | _ => none }
def fnExactPaceOfRow : OpenClaim := { program := "ytngmpimoebggdaa", sum := "016cafa193924912bf734d6195dc0db069e36dfbdf9120552e93edbfdc55a0b1", func := "loop.example/g03317/laws.FnExactPaceOf", spec := "fnExactPaceOf", unfollowed := true, recurses := true, apart := false }
def FnExactPaceOfSaid : Prop := fnExactPaceOfRow.holds Try.pinned (OpenSpec.ofChange fnExactPaceOfSpec)

/-- ITS FALSE NEIGHBOUR: 'it returns false'. Refute it at one input. -/
def fnExactPaceOfWrong : ChangeSpec := { name := "fnExactPaceOf", fn := fun _ => fun
  | [d1, d2] => { results := [.lit (.bool false)], args := [d1, d2] }
  | _ => none }
def FnExactPaceOfWrongFalsely : Prop := fnExactPaceOfRow.holds Try.pinned (OpenSpec.ofChange fnExactPaceOfWrong)

/-- 'laws.FnExactMoverOk': WHATEVER THE INPUT: true; the input reads as it did. -/
def fnExactMoverOkSpec : ChangeSpec := { name := "fnExactMoverOk", fn := fun _ => fun
  | [d1, d2] => { results := [.lit (.bool true)], args := [d1, d2] }
  | _ => none }
def fnExactMoverOkRow : OpenClaim := { program := "ytngmpimoebggdaa", sum := "016cafa193924912bf734d6195dc0db069e36dfbdf9120552e93edbfdc55a0b1", func := "loop.example/g03317/laws.FnExactMoverOk", spec := "fnExactMoverOk", unfollowed := true, recurses := true, apart := false }
def FnExactMoverOkSaid : Prop := fnExactMoverOkRow.holds Try.pinned (OpenSpec.ofChange fnExactMoverOkSpec)

/-- ITS FALSE NEIGHBOUR: 'it returns false'. Refute it at one input. -/
def fnExactMoverOkWrong : ChangeSpec := { name := "fnExactMoverOk", fn := fun _ => fun
  | [d1, d2] => { results := [.lit (.bool false)], args := [d1, d2] }
  | _ => none }
def FnExactMoverOkWrongFalsely : Prop := fnExactMoverOkRow.holds Try.pinned (OpenSpec.ofChange fnExactMoverOkWrong)

/-- 'laws.FnExactAtEnd': WHATEVER THE INPUT: true; the input reads as it did. -/
def fnExactAtEndSpec : ChangeSpec := { name := "fnExactAtEnd", fn := fun _ => fun
  | [d1, d2] => { results := [.lit (.bool true)], args := [d1, d2] }
  | _ => none }
def fnExactAtEndRow : OpenClaim := { program := "ytngmpimoebggdaa", sum := "016cafa193924912bf734d6195dc0db069e36dfbdf9120552e93edbfdc55a0b1", func := "loop.example/g03317/laws.FnExactAtEnd", spec := "fnExactAtEnd", unfollowed := true, recurses := true, apart := false }
def FnExactAtEndSaid : Prop := fnExactAtEndRow.holds Try.pinned (OpenSpec.ofChange fnExactAtEndSpec)

/-- ITS FALSE NEIGHBOUR: 'it returns false'. Refute it at one input. -/
def fnExactAtEndWrong : ChangeSpec := { name := "fnExactAtEnd", fn := fun _ => fun
  | [d1, d2] => { results := [.lit (.bool false)], args := [d1, d2] }
  | _ => none }
def FnExactAtEndWrongFalsely : Prop := fnExactAtEndRow.holds Try.pinned (OpenSpec.ofChange fnExactAtEndWrong)

/-- 'laws.FnExactTimeTo': WHATEVER THE INPUT: true; the input reads as it did. -/
def fnExactTimeToSpec : ChangeSpec := { name := "fnExactTimeTo", fn := fun _ => fun
  | [d1, d2, d3] => { results := [.lit (.bool true)], args := [d1, d2, d3] }
  | _ => none }
def fnExactTimeToRow : OpenClaim := { program := "ytngmpimoebggdaa", sum := "016cafa193924912bf734d6195dc0db069e36dfbdf9120552e93edbfdc55a0b1", func := "loop.example/g03317/laws.FnExactTimeTo", spec := "fnExactTimeTo", unfollowed := true, recurses := true, apart := false }
def FnExactTimeToSaid : Prop := fnExactTimeToRow.holds Try.pinned (OpenSpec.ofChange fnExactTimeToSpec)

/-- ITS FALSE NEIGHBOUR: 'it returns false'. Refute it at one input. -/
def fnExactTimeToWrong : ChangeSpec := { name := "fnExactTimeTo", fn := fun _ => fun
  | [d1, d2, d3] => { results := [.lit (.bool false)], args := [d1, d2, d3] }
  | _ => none }
def FnExactTimeToWrongFalsely : Prop := fnExactTimeToRow.holds Try.pinned (OpenSpec.ofChange fnExactTimeToWrong)

/-- 'laws.FnExactTariffOk': WHATEVER THE INPUT: true; the input reads as it did. -/
def fnExactTariffOkSpec : ChangeSpec := { name := "fnExactTariffOk", fn := fun _ => fun
  | [d] => { results := [.lit (.bool true)], args := [d] }
  | _ => none }
def fnExactTariffOkRow : OpenClaim := { program := "ytngmpimoebggdaa", sum := "016cafa193924912bf734d6195dc0db069e36dfbdf9120552e93edbfdc55a0b1", func := "loop.example/g03317/laws.FnExactTariffOk", spec := "fnExactTariffOk", unfollowed := true, recurses := true, apart := false }
def FnExactTariffOkSaid : Prop := fnExactTariffOkRow.holds Try.pinned (OpenSpec.ofChange fnExactTariffOkSpec)

/-- ITS FALSE NEIGHBOUR: 'it returns false'. Refute it at one input. -/
def fnExactTariffOkWrong : ChangeSpec := { name := "fnExactTariffOk", fn := fun _ => fun
  | [d] => { results := [.lit (.bool false)], args := [d] }
  | _ => none }
def FnExactTariffOkWrongFalsely : Prop := fnExactTariffOkRow.holds Try.pinned (OpenSpec.ofChange fnExactTariffOkWrong)

/-- 'laws.FnExactTollOf': WHATEVER THE INPUT: true; the input reads as it did. -/
def fnExactTollOfSpec : ChangeSpec := { name := "fnExactTollOf", fn := fun _ => fun
  | [d1, d2] => { results := [.lit (.bool true)], args := [d1, d2] }
  | _ => none }
def fnExactTollOfRow : OpenClaim := { program := "ytngmpimoebggdaa", sum := "016cafa193924912bf734d6195dc0db069e36dfbdf9120552e93edbfdc55a0b1", func := "loop.example/g03317/laws.FnExactTollOf", spec := "fnExactTollOf", unfollowed := true, recurses := true, apart := false }
def FnExactTollOfSaid : Prop := fnExactTollOfRow.holds Try.pinned (OpenSpec.ofChange fnExactTollOfSpec)

/-- ITS FALSE NEIGHBOUR: 'it returns false'. Refute it at one input. -/
def fnExactTollOfWrong : ChangeSpec := { name := "fnExactTollOf", fn := fun _ => fun
  | [d1, d2] => { results := [.lit (.bool false)], args := [d1, d2] }
  | _ => none }
def FnExactTollOfWrongFalsely : Prop := fnExactTollOfRow.holds Try.pinned (OpenSpec.ofChange fnExactTollOfWrong)

/-- 'laws.FnExactBookOk': WHATEVER THE INPUT: true; the input reads as it did. -/
def fnExactBookOkSpec : ChangeSpec := { name := "fnExactBookOk", fn := fun _ => fun
  | [d] => { results := [.lit (.bool true)], args := [d] }
  | _ => none }
def fnExactBookOkRow : OpenClaim := { program := "ytngmpimoebggdaa", sum := "016cafa193924912bf734d6195dc0db069e36dfbdf9120552e93edbfdc55a0b1", func := "loop.example/g03317/laws.FnExactBookOk", spec := "fnExactBookOk", unfollowed := true, recurses := true, apart := false }
def FnExactBookOkSaid : Prop := fnExactBookOkRow.holds Try.pinned (OpenSpec.ofChange fnExactBookOkSpec)

/-- ITS FALSE NEIGHBOUR: 'it returns false'. Refute it at one input. -/
def fnExactBookOkWrong : ChangeSpec := { name := "fnExactBookOk", fn := fun _ => fun
  | [d] => { results := [.lit (.bool false)], args := [d] }
  | _ => none }
def FnExactBookOkWrongFalsely : Prop := fnExactBookOkRow.holds Try.pinned (OpenSpec.ofChange fnExactBookOkWrong)

/-- 'laws.FnExactBalancesOf': WHATEVER THE INPUT: true; the input reads as it did. -/
def fnExactBalancesOfSpec : ChangeSpec := { name := "fnExactBalancesOf", fn := fun _ => fun
  | [d] => { results := [.lit (.bool true)], args := [d] }
  | _ => none }
def fnExactBalancesOfRow : OpenClaim := { program := "ytngmpimoebggdaa", sum := "016cafa193924912bf734d6195dc0db069e36dfbdf9120552e93edbfdc55a0b1", func := "loop.example/g03317/laws.FnExactBalancesOf", spec := "fnExactBalancesOf", unfollowed := true, recurses := true, apart := false }
def FnExactBalancesOfSaid : Prop := fnExactBalancesOfRow.holds Try.pinned (OpenSpec.ofChange fnExactBalancesOfSpec)

/-- ITS FALSE NEIGHBOUR: 'it returns false'. Refute it at one input. -/
def fnExactBalancesOfWrong : ChangeSpec := { name := "fnExactBalancesOf", fn := fun _ => fun
  | [d] => { results := [.lit (.bool false)], args := [d] }
  | _ => none }
def FnExactBalancesOfWrongFalsely : Prop := fnExactBalancesOfRow.holds Try.pinned (OpenSpec.ofChange fnExactBalancesOfWrong)

/-- 'laws.FnExactTollEntries': WHATEVER THE INPUT: true; the input reads as it did. -/
def fnExactTollEntriesSpec : ChangeSpec := { name := "fnExactTollEntries", fn := fun _ => fun
  | [d1, d2, d3] => { results := [.lit (.bool true)], args := [d1, d2, d3] }
  | _ => none }
def fnExactTollEntriesRow : OpenClaim := { program := "ytngmpimoebggdaa", sum := "016cafa193924912bf734d6195dc0db069e36dfbdf9120552e93edbfdc55a0b1", func := "loop.example/g03317/laws.FnExactTollEntries", spec := "fnExactTollEntries", unfollowed := true, recurses := true, apart := false }
def FnExactTollEntriesSaid : Prop := fnExactTollEntriesRow.holds Try.pinned (OpenSpec.ofChange fnExactTollEntriesSpec)

/-- ITS FALSE NEIGHBOUR: 'it returns false'. Refute it at one input. -/
def fnExactTollEntriesWrong : ChangeSpec := { name := "fnExactTollEntries", fn := fun _ => fun
  | [d1, d2, d3] => { results := [.lit (.bool false)], args := [d1, d2, d3] }
  | _ => none }
def FnExactTollEntriesWrongFalsely : Prop := fnExactTollEntriesRow.holds Try.pinned (OpenSpec.ofChange fnExactTollEntriesWrong)

/-- 'laws.FnExactSettleUp': WHATEVER THE INPUT: true; the input reads as it did. -/
def fnExactSettleUpSpec : ChangeSpec := { name := "fnExactSettleUp", fn := fun _ => fun
  | [d1, d2] => { results := [.lit (.bool true)], args := [d1, d2] }
  | _ => none }
def fnExactSettleUpRow : OpenClaim := { program := "ytngmpimoebggdaa", sum := "016cafa193924912bf734d6195dc0db069e36dfbdf9120552e93edbfdc55a0b1", func := "loop.example/g03317/laws.FnExactSettleUp", spec := "fnExactSettleUp", unfollowed := true, recurses := true, apart := false }
def FnExactSettleUpSaid : Prop := fnExactSettleUpRow.holds Try.pinned (OpenSpec.ofChange fnExactSettleUpSpec)

/-- ITS FALSE NEIGHBOUR: 'it returns false'. Refute it at one input. -/
def fnExactSettleUpWrong : ChangeSpec := { name := "fnExactSettleUp", fn := fun _ => fun
  | [d1, d2] => { results := [.lit (.bool false)], args := [d1, d2] }
  | _ => none }
def FnExactSettleUpWrongFalsely : Prop := fnExactSettleUpRow.holds Try.pinned (OpenSpec.ofChange fnExactSettleUpWrong)

/-- 'laws.FnExactWorkOk': WHATEVER THE INPUT: true; the input reads as it did. -/
def fnExactWorkOkSpec : ChangeSpec := { name := "fnExactWorkOk", fn := fun _ => fun
  | [d] => { results := [.lit (.bool true)], args := [d] }
  | _ => none }
def fnExactWorkOkRow : OpenClaim := { program := "ytngmpimoebggdaa", sum := "016cafa193924912bf734d6195dc0db069e36dfbdf9120552e93edbfdc55a0b1", func := "loop.example/g03317/laws.FnExactWorkOk", spec := "fnExactWorkOk", unfollowed := true, recurses := true, apart := false }
def FnExactWorkOkSaid : Prop := fnExactWorkOkRow.holds Try.pinned (OpenSpec.ofChange fnExactWorkOkSpec)

/-- ITS FALSE NEIGHBOUR: 'it returns false'. Refute it at one input. -/
def fnExactWorkOkWrong : ChangeSpec := { name := "fnExactWorkOk", fn := fun _ => fun
  | [d] => { results := [.lit (.bool false)], args := [d] }
  | _ => none }
def FnExactWorkOkWrongFalsely : Prop := fnExactWorkOkRow.holds Try.pinned (OpenSpec.ofChange fnExactWorkOkWrong)

/- THE SECOND FORM. 'bulk': how many values and letters a reading holds, each counted each time it is reached (what is shared counts as often as it is met; a slice's spare places count too). A statement '..UptoSaid' is the law's where the arguments, and the package variables that the reading takes, are together of bulk at most 1048576: NARROWER than '..Said'. Prove '..Said' where nothing that the law and all that it calls make is longer than what came in: it says more and counts as full. Else prove '..UptoSaid'. A law counts once. -/
mutual
def uptoBulk {H : Type} : DataW H → Nat
  | .lit (.string bytes) => bytes.length + 1
  | .lit _ => 1
  | .nil => 1
  | .ptr d => uptoBulk d + 1
  | .slice elems spare => uptoBulkAll elems + uptoBulkAll spare + 1
  | .agg parts => uptoBulkAll parts + 1
  | .iface _ d => uptoBulk d + 1
  | .map entries => uptoBulkEntries entries + 1
  | .held _ => 1
def uptoBulkAll {H : Type} : List (DataW H) → Nat
  | [] => 0
  | d :: r => uptoBulk d + uptoBulkAll r
def uptoBulkEntries {H : Type} : List (Lit × DataW H) → Nat
  | [] => 0
  | x :: r => uptoBulkEntry x + uptoBulkEntries r
def uptoBulkEntry {H : Type} : Lit × DataW H → Nat
  | (.string bytes, d) => bytes.length + uptoBulk d + 1
  | (_, d) => uptoBulk d + 1
 end
def uptoSmall : (H : Type) → List (DataW H) → Bool := fun _ ds => decide (uptoBulkAll ds ≤ 1048576)
def OpenSpec.upto (s : _root_.Go.ChangeSpec) : _root_.Go.OpenSpec := { _root_.Go.OpenSpec.ofChange s with cond := some uptoSmall }

/-- 'laws.FnExactPaceOf', WHERE WHAT IT READS IS OF BULK AT MOST 1048576: true; the input reads as it did. -/
def fnExactPaceOfUptoRow : OpenClaim := { program := "ytngmpimoebggdaa", sum := "016cafa193924912bf734d6195dc0db069e36dfbdf9120552e93edbfdc55a0b1", func := "loop.example/g03317/laws.FnExactPaceOf", spec := "fnExactPaceOf", unfollowed := true, recurses := true, apart := false, narrowed := true }
def FnExactPaceOfUptoSaid : Prop := fnExactPaceOfUptoRow.holds Try.pinned (OpenSpec.upto fnExactPaceOfSpec)

/-- 'laws.FnExactMoverOk', WHERE WHAT IT READS IS OF BULK AT MOST 1048576: true; the input reads as it did. -/
def fnExactMoverOkUptoRow : OpenClaim := { program := "ytngmpimoebggdaa", sum := "016cafa193924912bf734d6195dc0db069e36dfbdf9120552e93edbfdc55a0b1", func := "loop.example/g03317/laws.FnExactMoverOk", spec := "fnExactMoverOk", unfollowed := true, recurses := true, apart := false, narrowed := true }
def FnExactMoverOkUptoSaid : Prop := fnExactMoverOkUptoRow.holds Try.pinned (OpenSpec.upto fnExactMoverOkSpec)

/-- 'laws.FnExactAtEnd', WHERE WHAT IT READS IS OF BULK AT MOST 1048576: true; the input reads as it did. -/
def fnExactAtEndUptoRow : OpenClaim := { program := "ytngmpimoebggdaa", sum := "016cafa193924912bf734d6195dc0db069e36dfbdf9120552e93edbfdc55a0b1", func := "loop.example/g03317/laws.FnExactAtEnd", spec := "fnExactAtEnd", unfollowed := true, recurses := true, apart := false, narrowed := true }
def FnExactAtEndUptoSaid : Prop := fnExactAtEndUptoRow.holds Try.pinned (OpenSpec.upto fnExactAtEndSpec)

/-- 'laws.FnExactTimeTo', WHERE WHAT IT READS IS OF BULK AT MOST 1048576: true; the input reads as it did. -/
def fnExactTimeToUptoRow : OpenClaim := { program := "ytngmpimoebggdaa", sum := "016cafa193924912bf734d6195dc0db069e36dfbdf9120552e93edbfdc55a0b1", func := "loop.example/g03317/laws.FnExactTimeTo", spec := "fnExactTimeTo", unfollowed := true, recurses := true, apart := false, narrowed := true }
def FnExactTimeToUptoSaid : Prop := fnExactTimeToUptoRow.holds Try.pinned (OpenSpec.upto fnExactTimeToSpec)

/-- 'laws.FnExactTariffOk', WHERE WHAT IT READS IS OF BULK AT MOST 1048576: true; the input reads as it did. -/
def fnExactTariffOkUptoRow : OpenClaim := { program := "ytngmpimoebggdaa", sum := "016cafa193924912bf734d6195dc0db069e36dfbdf9120552e93edbfdc55a0b1", func := "loop.example/g03317/laws.FnExactTariffOk", spec := "fnExactTariffOk", unfollowed := true, recurses := true, apart := false, narrowed := true }
def FnExactTariffOkUptoSaid : Prop := fnExactTariffOkUptoRow.holds Try.pinned (OpenSpec.upto fnExactTariffOkSpec)

/-- 'laws.FnExactTollOf', WHERE WHAT IT READS IS OF BULK AT MOST 1048576: true; the input reads as it did. -/
def fnExactTollOfUptoRow : OpenClaim := { program := "ytngmpimoebggdaa", sum := "016cafa193924912bf734d6195dc0db069e36dfbdf9120552e93edbfdc55a0b1", func := "loop.example/g03317/laws.FnExactTollOf", spec := "fnExactTollOf", unfollowed := true, recurses := true, apart := false, narrowed := true }
def FnExactTollOfUptoSaid : Prop := fnExactTollOfUptoRow.holds Try.pinned (OpenSpec.upto fnExactTollOfSpec)

/-- 'laws.FnExactBookOk', WHERE WHAT IT READS IS OF BULK AT MOST 1048576: true; the input reads as it did. -/
def fnExactBookOkUptoRow : OpenClaim := { program := "ytngmpimoebggdaa", sum := "016cafa193924912bf734d6195dc0db069e36dfbdf9120552e93edbfdc55a0b1", func := "loop.example/g03317/laws.FnExactBookOk", spec := "fnExactBookOk", unfollowed := true, recurses := true, apart := false, narrowed := true }
def FnExactBookOkUptoSaid : Prop := fnExactBookOkUptoRow.holds Try.pinned (OpenSpec.upto fnExactBookOkSpec)

/-- 'laws.FnExactBalancesOf', WHERE WHAT IT READS IS OF BULK AT MOST 1048576: true; the input reads as it did. -/
def fnExactBalancesOfUptoRow : OpenClaim := { program := "ytngmpimoebggdaa", sum := "016cafa193924912bf734d6195dc0db069e36dfbdf9120552e93edbfdc55a0b1", func := "loop.example/g03317/laws.FnExactBalancesOf", spec := "fnExactBalancesOf", unfollowed := true, recurses := true, apart := false, narrowed := true }
def FnExactBalancesOfUptoSaid : Prop := fnExactBalancesOfUptoRow.holds Try.pinned (OpenSpec.upto fnExactBalancesOfSpec)

/-- 'laws.FnExactTollEntries', WHERE WHAT IT READS IS OF BULK AT MOST 1048576: true; the input reads as it did. -/
def fnExactTollEntriesUptoRow : OpenClaim := { program := "ytngmpimoebggdaa", sum := "016cafa193924912bf734d6195dc0db069e36dfbdf9120552e93edbfdc55a0b1", func := "loop.example/g03317/laws.FnExactTollEntries", spec := "fnExactTollEntries", unfollowed := true, recurses := true, apart := false, narrowed := true }
def FnExactTollEntriesUptoSaid : Prop := fnExactTollEntriesUptoRow.holds Try.pinned (OpenSpec.upto fnExactTollEntriesSpec)

/-- 'laws.FnExactSettleUp', WHERE WHAT IT READS IS OF BULK AT MOST 1048576: true; the input reads as it did. -/
def fnExactSettleUpUptoRow : OpenClaim := { program := "ytngmpimoebggdaa", sum := "016cafa193924912bf734d6195dc0db069e36dfbdf9120552e93edbfdc55a0b1", func := "loop.example/g03317/laws.FnExactSettleUp", spec := "fnExactSettleUp", unfollowed := true, recurses := true, apart := false, narrowed := true }
def FnExactSettleUpUptoSaid : Prop := fnExactSettleUpUptoRow.holds Try.pinned (OpenSpec.upto fnExactSettleUpSpec)

/-- 'laws.FnExactWorkOk', WHERE WHAT IT READS IS OF BULK AT MOST 1048576: true; the input reads as it did. -/
def fnExactWorkOkUptoRow : OpenClaim := { program := "ytngmpimoebggdaa", sum := "016cafa193924912bf734d6195dc0db069e36dfbdf9120552e93edbfdc55a0b1", func := "loop.example/g03317/laws.FnExactWorkOk", spec := "fnExactWorkOk", unfollowed := true, recurses := true, apart := false, narrowed := true }
def FnExactWorkOkUptoSaid : Prop := fnExactWorkOkUptoRow.holds Try.pinned (OpenSpec.upto fnExactWorkOkSpec)

end Rows
end Go.Proofs.Ytngmpimoebggdaa
