/-
  DERIVED. GIVEN WITH THE SEED: THE CARDS: each row of YtclofbknbfmmlaaDoorRows.lean that lists a variable, with what it lists TIED to the program's text (the seventh form; the later family's looks); each row that meets fmt, with fmt's text TOLD by the authors' own Lean function (tested against real Go, not proved from fmt's source: count such statements apart). THE CARD IS WHAT COUNTS. Prove the row's statement (the work); the ties are given (YtclofbknbfmmlaaDoorTie.lean); close each card by the builder's one call (the guide's Derived/Test/ToyasCard.lean, 'card_holds'). Laid BY PROGRAM, IN A SANDBOX (cutbox-door.mjs). By AI agents, Wed Nov 11 2026. No macro, syntax, notation, axiom, sorry.
-/
import Derived.Test.YtclofbknbfmmlaaDoorRows
import GoSem.ClaimSeven
namespace Go.Proofs.YtclofbknbfmmlaaDoor
namespace Rows

/-- THE TIED CARD OF 'laws.FnTolls'. -/
def fnTollsCard : Claim7 := { stood := { row := fnTollsRow, standIns := [], harness := (true, "c3e668e25211e2ad9694783be81e3e5cb9b27ea1558ef525259a7a3ea9cc722b"), looks := true }, kinds := [], alts := [], laidByText := true, laidKinds := [.sentinel], laidTests := true, laidLooks := .later }
def FnTollsCardSaid : Prop := Claim7.holds Tryd.pinned (.plain (OpenSpec.ofChange fnTollsSpec)) fnTollsCard

/-- THE TIED CARD OF 'laws.FnSettled'. -/
def fnSettledCard : Claim7 := { stood := { row := fnSettledRow, standIns := [], harness := (true, "c3e668e25211e2ad9694783be81e3e5cb9b27ea1558ef525259a7a3ea9cc722b"), looks := true }, kinds := [], alts := [], laidByText := true, laidKinds := [.sentinel], laidTests := true, laidLooks := .later }
def FnSettledCardSaid : Prop := Claim7.holds Tryd.pinned (.plain (OpenSpec.ofChange fnSettledSpec)) fnSettledCard

/-- THE TIED CARD OF 'laws.FnEntryText'. -/
def fnEntryTextCard : Claim7 := { stood := { row := fnEntryTextRow, standIns := [], harness := (true, "c3e668e25211e2ad9694783be81e3e5cb9b27ea1558ef525259a7a3ea9cc722b"), looks := true }, kinds := [], alts := [], laidByText := true, laidKinds := [.data, .data, .data, .listed, .data], laidTests := true, laidLooks := .later }
def FnEntryTextCardSaid : Prop := Claim7.holds Tryd.pinned (.plain (OpenSpec.ofChange fnEntryTextSpec)) fnEntryTextCard

/-- THE TIED CARD OF 'laws.FnExactPostEntries'. -/
def fnExactPostEntriesCard : Claim7 := { stood := { row := fnExactPostEntriesRow, standIns := [], harness := (true, "c3e668e25211e2ad9694783be81e3e5cb9b27ea1558ef525259a7a3ea9cc722b"), looks := true }, kinds := [], alts := [], laidByText := true, laidKinds := [.sentinel], laidTests := true, laidLooks := .later }
def FnExactPostEntriesCardSaid : Prop := Claim7.holds Tryd.pinned (.plain (OpenSpec.ofChange fnExactPostEntriesSpec)) fnExactPostEntriesCard

/-- THE TIED CARD OF 'laws.FnExactFormatEntry'. -/
def fnExactFormatEntryCard : Claim7 := { stood := { row := fnExactFormatEntryRow, standIns := [], harness := (true, "c3e668e25211e2ad9694783be81e3e5cb9b27ea1558ef525259a7a3ea9cc722b"), looks := true }, kinds := [], alts := [], laidByText := true, laidKinds := [.data, .data, .data], laidTests := true, laidLooks := .later }
def FnExactFormatEntryCardSaid : Prop := Claim7.holds Tryd.pinned (.plain (OpenSpec.ofChange fnExactFormatEntrySpec)) fnExactFormatEntryCard

/-- THE TIED CARD OF 'laws.FnExactParseEntry'. -/
def fnExactParseEntryCard : Claim7 := { stood := { row := fnExactParseEntryRow, standIns := [], harness := (true, "c3e668e25211e2ad9694783be81e3e5cb9b27ea1558ef525259a7a3ea9cc722b"), looks := true }, kinds := [], alts := [], laidByText := true, laidKinds := [.data, .data, .data, .listed, .data], laidTests := true, laidLooks := .later }
def FnExactParseEntryCardSaid : Prop := Claim7.holds Tryd.pinned (.plain (OpenSpec.ofChange fnExactParseEntrySpec)) fnExactParseEntryCard

/-- THE SECOND FORM's CARD OF 'laws.FnTolls'. -/
def fnTollsUptoCard : Claim7 := { stood := { row := fnTollsUptoRow, standIns := [], harness := (true, "c3e668e25211e2ad9694783be81e3e5cb9b27ea1558ef525259a7a3ea9cc722b"), looks := true }, kinds := [], alts := [], laidByText := true, laidKinds := [.sentinel], laidTests := true, laidLooks := .later }
def FnTollsUptoCardSaid : Prop := Claim7.holds Tryd.pinned (.plain (OpenSpec.upto fnTollsSpec)) fnTollsUptoCard

/-- THE SECOND FORM's CARD OF 'laws.FnSettled'. -/
def fnSettledUptoCard : Claim7 := { stood := { row := fnSettledUptoRow, standIns := [], harness := (true, "c3e668e25211e2ad9694783be81e3e5cb9b27ea1558ef525259a7a3ea9cc722b"), looks := true }, kinds := [], alts := [], laidByText := true, laidKinds := [.sentinel], laidTests := true, laidLooks := .later }
def FnSettledUptoCardSaid : Prop := Claim7.holds Tryd.pinned (.plain (OpenSpec.upto fnSettledSpec)) fnSettledUptoCard

/-- THE SECOND FORM's CARD OF 'laws.FnEntryText'. -/
def fnEntryTextUptoCard : Claim7 := { stood := { row := fnEntryTextUptoRow, standIns := [], harness := (true, "c3e668e25211e2ad9694783be81e3e5cb9b27ea1558ef525259a7a3ea9cc722b"), looks := true }, kinds := [], alts := [], laidByText := true, laidKinds := [.data, .data, .data, .listed, .data], laidTests := true, laidLooks := .later }
def FnEntryTextUptoCardSaid : Prop := Claim7.holds Tryd.pinned (.plain (OpenSpec.upto fnEntryTextSpec)) fnEntryTextUptoCard

/-- THE SECOND FORM's CARD OF 'laws.FnExactPostEntries'. -/
def fnExactPostEntriesUptoCard : Claim7 := { stood := { row := fnExactPostEntriesUptoRow, standIns := [], harness := (true, "c3e668e25211e2ad9694783be81e3e5cb9b27ea1558ef525259a7a3ea9cc722b"), looks := true }, kinds := [], alts := [], laidByText := true, laidKinds := [.sentinel], laidTests := true, laidLooks := .later }
def FnExactPostEntriesUptoCardSaid : Prop := Claim7.holds Tryd.pinned (.plain (OpenSpec.upto fnExactPostEntriesSpec)) fnExactPostEntriesUptoCard

/-- THE SECOND FORM's CARD OF 'laws.FnExactFormatEntry'. -/
def fnExactFormatEntryUptoCard : Claim7 := { stood := { row := fnExactFormatEntryUptoRow, standIns := [], harness := (true, "c3e668e25211e2ad9694783be81e3e5cb9b27ea1558ef525259a7a3ea9cc722b"), looks := true }, kinds := [], alts := [], laidByText := true, laidKinds := [.data, .data, .data], laidTests := true, laidLooks := .later }
def FnExactFormatEntryUptoCardSaid : Prop := Claim7.holds Tryd.pinned (.plain (OpenSpec.upto fnExactFormatEntrySpec)) fnExactFormatEntryUptoCard

/-- THE SECOND FORM's CARD OF 'laws.FnExactParseEntry'. -/
def fnExactParseEntryUptoCard : Claim7 := { stood := { row := fnExactParseEntryUptoRow, standIns := [], harness := (true, "c3e668e25211e2ad9694783be81e3e5cb9b27ea1558ef525259a7a3ea9cc722b"), looks := true }, kinds := [], alts := [], laidByText := true, laidKinds := [.data, .data, .data, .listed, .data], laidTests := true, laidLooks := .later }
def FnExactParseEntryUptoCardSaid : Prop := Claim7.holds Tryd.pinned (.plain (OpenSpec.upto fnExactParseEntrySpec)) fnExactParseEntryUptoCard
end Rows
end Go.Proofs.YtclofbknbfmmlaaDoor
