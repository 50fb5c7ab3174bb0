/-
  DERIVED. GIVEN WITH THE SEED: THE CARDS: each row of YtiehokibfdaleaaDoorRows.lean that lists a variable, with what it lists TIED to the program's text (the seventh form; the later family's looks); each row that meets fmt, with fmt's text TOLD by the authors' own Lean function (tested against real Go, not proved from fmt's source: count such statements apart). THE CARD IS WHAT COUNTS. Prove the row's statement (the work); the ties are given (YtiehokibfdaleaaDoorTie.lean); close each card by the builder's one call (the guide's Derived/Test/ToyasCard.lean, 'card_holds'). Laid BY PROGRAM, IN A SANDBOX (cutbox-door.mjs). By AI agents, Wed Nov 11 2026. No macro, syntax, notation, axiom, sorry.
-/
import Derived.Test.YtiehokibfdaleaaDoorRows
import GoSem.ClaimSeven
namespace Go.Proofs.YtiehokibfdaleaaDoor
namespace Rows

/-- THE TIED CARD OF 'laws.FnAbsWide'. -/
def fnAbsWideCard : Claim7 := { stood := { row := fnAbsWideRow, standIns := [], harness := (true, "2bc4e9c71e7c6c2a0d979260d11b5a3e137a0cccd860c2743cf1ce50e980711a"), looks := false }, kinds := [], alts := [], laidByText := true, laidKinds := [.data], laidTests := true, laidLooks := .later }
def FnAbsWideCardSaid : Prop := Claim7.holds Tryd.pinned (.plain (OpenSpec.ofChange fnAbsWideSpec)) fnAbsWideCard

/-- THE SECOND FORM's CARD OF 'laws.FnAbsWide'. -/
def fnAbsWideUptoCard : Claim7 := { stood := { row := fnAbsWideUptoRow, standIns := [], harness := (true, "2bc4e9c71e7c6c2a0d979260d11b5a3e137a0cccd860c2743cf1ce50e980711a"), looks := false }, kinds := [], alts := [], laidByText := true, laidKinds := [.data], laidTests := true, laidLooks := .later }
def FnAbsWideUptoCardSaid : Prop := Claim7.holds Tryd.pinned (.plain (OpenSpec.upto fnAbsWideSpec)) fnAbsWideUptoCard
end Rows
end Go.Proofs.YtiehokibfdaleaaDoor
