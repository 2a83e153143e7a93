/-
  DERIVED. GIVEN WITH THE SEED: THE CARDS: each row of YtfpdhlpbcgobiaaDoorRows.lean that lists a variable, with what it lists TIED to the program's text (the seventh form; the later family's looks); each row that meets fmt, with fmt's text TOLD by the authors' own Lean function (tested against real Go, not proved from fmt's source: count such statements apart). THE CARD IS WHAT COUNTS. Prove the row's statement (the work); the ties are given (YtfpdhlpbcgobiaaDoorTie.lean); close each card by the builder's one call (the guide's Derived/Test/ToyasCard.lean, 'card_holds'). Laid BY PROGRAM, IN A SANDBOX (cutbox-door.mjs). By AI agents, Wed Nov 11 2026. No macro, syntax, notation, axiom, sorry.
-/
import Derived.Test.YtfpdhlpbcgobiaaDoorRows
import GoSem.ClaimSeven
namespace Go.Proofs.YtfpdhlpbcgobiaaDoor
namespace Rows

/-- THE TIED CARD OF 'laws.FnExactOpText'. -/
def fnExactOpTextCard : Claim7 := { stood := { row := fnExactOpTextRow, standIns := [], harness := (true, "91c627bc18d4abe11d78f67028a4f23fff0565ab873c2ff6ac025fb07b167ce6"), looks := true }, kinds := [], alts := [], laidByText := true, laidKinds := [.data, .data, .data], laidTests := true, laidLooks := .later }
def FnExactOpTextCardSaid : Prop := Claim7.holds Tryd.pinned (.plain (OpenSpec.ofChange fnExactOpTextSpec)) fnExactOpTextCard

/-- THE TIED CARD OF 'laws.FnExactQueuesText'. -/
def fnExactQueuesTextCard : Claim7 := { stood := { row := fnExactQueuesTextRow, standIns := [], harness := (true, "91c627bc18d4abe11d78f67028a4f23fff0565ab873c2ff6ac025fb07b167ce6"), looks := true }, kinds := [], alts := [], laidByText := true, laidKinds := [.data, .data, .data], laidTests := true, laidLooks := .later }
def FnExactQueuesTextCardSaid : Prop := Claim7.holds Tryd.pinned (.plain (OpenSpec.ofChange fnExactQueuesTextSpec)) fnExactQueuesTextCard

/-- THE TIED CARD OF 'laws.FnExactReadQueues'. -/
def fnExactReadQueuesCard : Claim7 := { stood := { row := fnExactReadQueuesRow, standIns := [], harness := (true, "91c627bc18d4abe11d78f67028a4f23fff0565ab873c2ff6ac025fb07b167ce6"), looks := true }, kinds := [], alts := [], laidByText := true, laidKinds := [.data, .handle, .pinned], laidTests := true, laidLooks := .later }
def FnExactReadQueuesCardSaid : Prop := Claim7.holds Tryd.pinned (.plain (OpenSpec.ofChange fnExactReadQueuesSpec)) fnExactReadQueuesCard

/-- THE SECOND FORM's CARD OF 'laws.FnExactOpText'. -/
def fnExactOpTextUptoCard : Claim7 := { stood := { row := fnExactOpTextUptoRow, standIns := [], harness := (true, "91c627bc18d4abe11d78f67028a4f23fff0565ab873c2ff6ac025fb07b167ce6"), looks := true }, kinds := [], alts := [], laidByText := true, laidKinds := [.data, .data, .data], laidTests := true, laidLooks := .later }
def FnExactOpTextUptoCardSaid : Prop := Claim7.holds Tryd.pinned (.plain (OpenSpec.upto fnExactOpTextSpec)) fnExactOpTextUptoCard

/-- THE SECOND FORM's CARD OF 'laws.FnExactQueuesText'. -/
def fnExactQueuesTextUptoCard : Claim7 := { stood := { row := fnExactQueuesTextUptoRow, standIns := [], harness := (true, "91c627bc18d4abe11d78f67028a4f23fff0565ab873c2ff6ac025fb07b167ce6"), looks := true }, kinds := [], alts := [], laidByText := true, laidKinds := [.data, .data, .data], laidTests := true, laidLooks := .later }
def FnExactQueuesTextUptoCardSaid : Prop := Claim7.holds Tryd.pinned (.plain (OpenSpec.upto fnExactQueuesTextSpec)) fnExactQueuesTextUptoCard

/-- THE SECOND FORM's CARD OF 'laws.FnExactReadQueues'. -/
def fnExactReadQueuesUptoCard : Claim7 := { stood := { row := fnExactReadQueuesUptoRow, standIns := [], harness := (true, "91c627bc18d4abe11d78f67028a4f23fff0565ab873c2ff6ac025fb07b167ce6"), looks := true }, kinds := [], alts := [], laidByText := true, laidKinds := [.data, .handle, .pinned], laidTests := true, laidLooks := .later }
def FnExactReadQueuesUptoCardSaid : Prop := Claim7.holds Tryd.pinned (.plain (OpenSpec.upto fnExactReadQueuesSpec)) fnExactReadQueuesUptoCard
end Rows
end Go.Proofs.YtfpdhlpbcgobiaaDoor
