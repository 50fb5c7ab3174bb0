/-
  DERIVED. GIVEN WITH THE SEED: THE CARDS: each row of YtddcojeghdnhnaaDoorRows.lean that lists a variable, with what it lists TIED to the program's text (the seventh form; the later family's looks); each row that meets fmt, with fmt's text TOLD by the authors' own Lean function (tested against real Go, not proved from fmt's source: count such statements apart). THE CARD IS WHAT COUNTS. Prove the row's statement (the work); the ties are given (YtddcojeghdnhnaaDoorTie.lean); close each card by the builder's one call (the guide's Derived/Test/ToyasCard.lean, 'card_holds'). Laid BY PROGRAM, IN A SANDBOX (cutbox-door.mjs). By AI agents, Wed Nov 11 2026. No macro, syntax, notation, axiom, sorry.
-/
import Derived.Test.YtddcojeghdnhnaaDoorRows
import GoSem.ClaimSeven
namespace Go.Proofs.YtddcojeghdnhnaaDoor
namespace Rows

/-- THE TIED CARD OF 'laws.FnExactAbsWide'. -/
def fnExactAbsWideCard : Claim7 := { stood := { row := fnExactAbsWideRow, standIns := [], harness := (true, "096c294af3ffeb062a1a02dd62da6e6a3fe07408c0ed5e12460e70c23f1635a8"), looks := false }, kinds := [], alts := [], laidByText := true, laidKinds := [.data], laidTests := true, laidLooks := .later }
def FnExactAbsWideCardSaid : Prop := Claim7.holds Tryd.pinned (.plain (OpenSpec.ofChange fnExactAbsWideSpec)) fnExactAbsWideCard

/-- THE SECOND FORM's CARD OF 'laws.FnExactAbsWide'. -/
def fnExactAbsWideUptoCard : Claim7 := { stood := { row := fnExactAbsWideUptoRow, standIns := [], harness := (true, "096c294af3ffeb062a1a02dd62da6e6a3fe07408c0ed5e12460e70c23f1635a8"), looks := false }, kinds := [], alts := [], laidByText := true, laidKinds := [.data], laidTests := true, laidLooks := .later }
def FnExactAbsWideUptoCardSaid : Prop := Claim7.holds Tryd.pinned (.plain (OpenSpec.upto fnExactAbsWideSpec)) fnExactAbsWideUptoCard
end Rows
end Go.Proofs.YtddcojeghdnhnaaDoor
