/-
  DERIVED. GIVEN WITH THE SEED: THE CARDS: each row of YtpgdefaiojjjfacDoorRows.lean that lists a variable, with what it lists TIED to the program's text (the seventh form; the later family's looks); each row that meets fmt, with fmt's text TOLD by the authors' own Lean function (tested against real Go, not proved from fmt's source: count such statements apart). THE CARD IS WHAT COUNTS. Prove the row's statement (the work); the ties are given (YtpgdefaiojjjfacDoorTie.lean); close each card by the builder's one call (the guide's Derived/Test/ToyasCard.lean, 'card_holds'). Laid BY PROGRAM, IN A SANDBOX (cutbox-door.mjs). By AI agents, Wed Nov 11 2026. No macro, syntax, notation, axiom, sorry.
-/
import Derived.Test.YtpgdefaiojjjfacDoorRows
import GoSem.ClaimSeven
namespace Go.Proofs.YtpgdefaiojjjfacDoor
namespace Rows

/-- THE TIED CARD OF 'laws.FnExactItvRead'. -/
def fnExactItvReadCard : Claim7 := { stood := { row := fnExactItvReadRow, standIns := [], harness := (true, "c34241f7149a4de4a0ed21b0e59105102bf36358007f86a8694331525f8fa26c"), looks := true }, kinds := [], alts := [], laidByText := true, laidKinds := [.data, .data, .data, .sentinel, .sentinel], laidTests := true, laidLooks := .later }
def FnExactItvReadCardSaid : Prop := Claim7.holds Tryd.pinned (.plain (OpenSpec.ofChange fnExactItvReadSpec)) fnExactItvReadCard

/-- THE SECOND FORM's CARD OF 'laws.FnExactItvRead'. -/
def fnExactItvReadUptoCard : Claim7 := { stood := { row := fnExactItvReadUptoRow, standIns := [], harness := (true, "c34241f7149a4de4a0ed21b0e59105102bf36358007f86a8694331525f8fa26c"), looks := true }, kinds := [], alts := [], laidByText := true, laidKinds := [.data, .data, .data, .sentinel, .sentinel], laidTests := true, laidLooks := .later }
def FnExactItvReadUptoCardSaid : Prop := Claim7.holds Tryd.pinned (.plain (OpenSpec.upto fnExactItvReadSpec)) fnExactItvReadUptoCard
end Rows
end Go.Proofs.YtpgdefaiojjjfacDoor
