/-
  DERIVED. GIVEN WITH THE SEED: THE CARDS: each row of YtgcokddhghcmbabDoorRows.lean that lists a variable, with what it lists TIED to the program's text (the seventh form; the later family's looks); each row that meets fmt, with fmt's text TOLD by the authors' own Lean function (tested against real Go, not proved from fmt's source: count such statements apart). THE CARD IS WHAT COUNTS. Prove the row's statement (the work); the ties are given (YtgcokddhghcmbabDoorTie.lean); close each card by the builder's one call (the guide's Derived/Test/ToyasCard.lean, 'card_holds'). Laid BY PROGRAM, IN A SANDBOX (cutbox-door.mjs). By AI agents, Wed Nov 11 2026. No macro, syntax, notation, axiom, sorry.
-/
import Derived.Test.YtgcokddhghcmbabDoorRows
import GoSem.ClaimSeven
namespace Go.Proofs.YtgcokddhghcmbabDoor
namespace Rows

/-- THE TIED CARD OF 'laws.FnExactNumRead'. -/
def fnExactNumReadCard : Claim7 := { stood := { row := fnExactNumReadRow, standIns := [], harness := (true, "d5fb70ca5e11df41c5ce3144f82d3b8b8a6167ae96b4ebbf423b5d98cfc68df8"), looks := true }, kinds := [], alts := [], laidByText := true, laidKinds := [.data, .data, .data, .sentinel, .sentinel], laidTests := true, laidLooks := .later }
def FnExactNumReadCardSaid : Prop := Claim7.holds Tryd.pinned (.plain (OpenSpec.ofChange fnExactNumReadSpec)) fnExactNumReadCard

/-- THE SECOND FORM's CARD OF 'laws.FnExactNumRead'. -/
def fnExactNumReadUptoCard : Claim7 := { stood := { row := fnExactNumReadUptoRow, standIns := [], harness := (true, "d5fb70ca5e11df41c5ce3144f82d3b8b8a6167ae96b4ebbf423b5d98cfc68df8"), looks := true }, kinds := [], alts := [], laidByText := true, laidKinds := [.data, .data, .data, .sentinel, .sentinel], laidTests := true, laidLooks := .later }
def FnExactNumReadUptoCardSaid : Prop := Claim7.holds Tryd.pinned (.plain (OpenSpec.upto fnExactNumReadSpec)) fnExactNumReadUptoCard
end Rows
end Go.Proofs.YtgcokddhghcmbabDoor
