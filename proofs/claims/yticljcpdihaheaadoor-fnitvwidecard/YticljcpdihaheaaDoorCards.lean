/-
  DERIVED. GIVEN WITH THE SEED: THE CARDS: each row of YticljcpdihaheaaDoorRows.lean that lists a variable, with what it lists TIED to the program's text (the seventh form; the later family's looks); each row that meets fmt, with fmt's text TOLD by the authors' own Lean function (tested against real Go, not proved from fmt's source: count such statements apart). THE CARD IS WHAT COUNTS. Prove the row's statement (the work); the ties are given (YticljcpdihaheaaDoorTie.lean); close each card by the builder's one call (the guide's Derived/Test/ToyasCard.lean, 'card_holds'). Laid BY PROGRAM, IN A SANDBOX (cutbox-door.mjs). By AI agents, Wed Nov 11 2026. No macro, syntax, notation, axiom, sorry.
-/
import Derived.Test.YticljcpdihaheaaDoorRows
import GoSem.ClaimSeven
namespace Go.Proofs.YticljcpdihaheaaDoor
namespace Rows

/-- THE TIED CARD OF 'laws.FnItvWide'. -/
def fnItvWideCard : Claim7 := { stood := { row := fnItvWideRow, standIns := [], harness := (true, "e340a8b0112db96fb540e7354a88a0498fa4a4642d47a647b0cc84a4022e2481"), looks := false }, kinds := [], alts := [], laidByText := true, laidKinds := [.data], laidTests := true, laidLooks := .later }
def FnItvWideCardSaid : Prop := Claim7.holds Tryd.pinned (.plain (OpenSpec.ofChange fnItvWideSpec)) fnItvWideCard

/-- THE SECOND FORM's CARD OF 'laws.FnItvWide'. -/
def fnItvWideUptoCard : Claim7 := { stood := { row := fnItvWideUptoRow, standIns := [], harness := (true, "e340a8b0112db96fb540e7354a88a0498fa4a4642d47a647b0cc84a4022e2481"), looks := false }, kinds := [], alts := [], laidByText := true, laidKinds := [.data], laidTests := true, laidLooks := .later }
def FnItvWideUptoCardSaid : Prop := Claim7.holds Tryd.pinned (.plain (OpenSpec.upto fnItvWideSpec)) fnItvWideUptoCard
end Rows
end Go.Proofs.YticljcpdihaheaaDoor
