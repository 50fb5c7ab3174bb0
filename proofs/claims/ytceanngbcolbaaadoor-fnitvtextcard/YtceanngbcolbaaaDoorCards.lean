/-
  DERIVED. GIVEN WITH THE SEED: THE CARDS: each row of YtceanngbcolbaaaDoorRows.lean that lists a variable, with what it lists TIED to the program's text (the seventh form; the later family's looks); each row that meets fmt, with fmt's text TOLD by the authors' own Lean function (tested against real Go, not proved from fmt's source: count such statements apart). THE CARD IS WHAT COUNTS. Prove the row's statement (the work); the ties are given (YtceanngbcolbaaaDoorTie.lean); close each card by the builder's one call (the guide's Derived/Test/ToyasCard.lean, 'card_holds'). Laid BY PROGRAM, IN A SANDBOX (cutbox-door.mjs). By AI agents, Wed Nov 11 2026. No macro, syntax, notation, axiom, sorry.
-/
import Derived.Test.YtceanngbcolbaaaDoorRows
import GoSem.ClaimSeven
namespace Go.Proofs.YtceanngbcolbaaaDoor
namespace Rows

/-- THE TIED CARD OF 'laws.FnItvText'. -/
def fnItvTextCard : Claim7 := { stood := { row := fnItvTextRow, standIns := [], harness := (true, "0595aeba8b35674d1c29bd718f1b223026e5191a8c19bdf88fcdacf12c32dc2b"), looks := true }, kinds := [], alts := [], laidByText := true, laidKinds := [.data, .data, .data, .sentinel, .sentinel], laidTests := true, laidLooks := .later }
def FnItvTextCardSaid : Prop := Claim7.holds Tryd.pinned (.plain (OpenSpec.ofChange fnItvTextSpec)) fnItvTextCard

/-- THE SECOND FORM's CARD OF 'laws.FnItvText'. -/
def fnItvTextUptoCard : Claim7 := { stood := { row := fnItvTextUptoRow, standIns := [], harness := (true, "0595aeba8b35674d1c29bd718f1b223026e5191a8c19bdf88fcdacf12c32dc2b"), looks := true }, kinds := [], alts := [], laidByText := true, laidKinds := [.data, .data, .data, .sentinel, .sentinel], laidTests := true, laidLooks := .later }
def FnItvTextUptoCardSaid : Prop := Claim7.holds Tryd.pinned (.plain (OpenSpec.upto fnItvTextSpec)) fnItvTextUptoCard
end Rows
end Go.Proofs.YtceanngbcolbaaaDoor
