/-
  DERIVED. GIVEN WITH THE SEED: THE CARDS: each row of YtoejklldpceghaaDoorRows.lean that lists a variable, with what it lists TIED to the program's text (the seventh form; the later family's looks); each row that meets fmt, with fmt's text TOLD by the authors' own Lean function (tested against real Go, not proved from fmt's source: count such statements apart). THE CARD IS WHAT COUNTS. Prove the row's statement (the work); the ties are given (YtoejklldpceghaaDoorTie.lean); close each card by the builder's one call (the guide's Derived/Test/ToyasCard.lean, 'card_holds'). Laid BY PROGRAM, IN A SANDBOX (cutbox-door.mjs). By AI agents, Wed Nov 11 2026. No macro, syntax, notation, axiom, sorry.
-/
import Derived.Test.YtoejklldpceghaaDoorRows
import GoSem.ClaimSeven
namespace Go.Proofs.YtoejklldpceghaaDoor
namespace Rows

/-- THE TIED CARD OF 'laws.FnRes'. -/
def fnResCard : Claim7 := { stood := { row := fnResRow, standIns := [], harness := (true, "82712745ddf85ba298880804f1642031d667d4f2f03aa6d3476867909089f616"), looks := false }, kinds := [], alts := [], laidByText := true, laidKinds := [.data, .data, .data], laidTests := true, laidLooks := .later }
def FnResCardSaid : Prop := Claim7.holds Tryd.pinned (.plain (OpenSpec.ofChange fnResSpec)) fnResCard

/-- THE SECOND FORM's CARD OF 'laws.FnRes'. -/
def fnResUptoCard : Claim7 := { stood := { row := fnResUptoRow, standIns := [], harness := (true, "82712745ddf85ba298880804f1642031d667d4f2f03aa6d3476867909089f616"), looks := false }, kinds := [], alts := [], laidByText := true, laidKinds := [.data, .data, .data], laidTests := true, laidLooks := .later }
def FnResUptoCardSaid : Prop := Claim7.holds Tryd.pinned (.plain (OpenSpec.upto fnResSpec)) fnResUptoCard
end Rows
end Go.Proofs.YtoejklldpceghaaDoor
