/-
  DERIVED. GIVEN WITH THE SEED: THE CARDS: each row of YtoejklldpceghabDoorRows.lean that lists a variable, with what it lists TIED to the program's text (the seventh form; the later family's looks); each row that meets fmt, with fmt's text TOLD by the authors' own Lean function (tested against real Go, not proved from fmt's source: count such statements apart). THE CARD IS WHAT COUNTS. Prove the row's statement (the work); the ties are given (YtoejklldpceghabDoorTie.lean); close each card by the builder's one call (the guide's Derived/Test/ToyasCard.lean, 'card_holds'). Laid BY PROGRAM, IN A SANDBOX (cutbox-door.mjs). By AI agents, Wed Nov 11 2026. No macro, syntax, notation, axiom, sorry.
-/
import Derived.Test.YtoejklldpceghabDoorRows
import GoSem.ClaimSeven
namespace Go.Proofs.YtoejklldpceghabDoor
namespace Rows

/-- THE TIED CARD OF 'laws.FnExactResText'. -/
def fnExactResTextCard : Claim7 := { stood := { row := fnExactResTextRow, standIns := [], harness := (true, "f70438d54a2d46d38b4c419e4193a7c615a9d9d50b6e95dbbf325a585afe65a7"), looks := false }, kinds := [], alts := [], laidByText := true, laidKinds := [.data, .data, .data], laidTests := true, laidLooks := .later }
def FnExactResTextCardSaid : Prop := Claim7.holds Tryd.pinned (.plain (OpenSpec.ofChange fnExactResTextSpec)) fnExactResTextCard

/-- THE SECOND FORM's CARD OF 'laws.FnExactResText'. -/
def fnExactResTextUptoCard : Claim7 := { stood := { row := fnExactResTextUptoRow, standIns := [], harness := (true, "f70438d54a2d46d38b4c419e4193a7c615a9d9d50b6e95dbbf325a585afe65a7"), looks := false }, kinds := [], alts := [], laidByText := true, laidKinds := [.data, .data, .data], laidTests := true, laidLooks := .later }
def FnExactResTextUptoCardSaid : Prop := Claim7.holds Tryd.pinned (.plain (OpenSpec.upto fnExactResTextSpec)) fnExactResTextUptoCard
end Rows
end Go.Proofs.YtoejklldpceghabDoor
