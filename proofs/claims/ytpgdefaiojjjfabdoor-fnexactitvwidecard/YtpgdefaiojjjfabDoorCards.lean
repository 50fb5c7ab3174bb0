/-
  DERIVED. GIVEN WITH THE SEED: THE CARDS: each row of YtpgdefaiojjjfabDoorRows.lean that lists a variable, with what it lists TIED to the program's text (the seventh form; the later family's looks); each row that meets fmt, with fmt's text TOLD by the authors' own Lean function (tested against real Go, not proved from fmt's source: count such statements apart). THE CARD IS WHAT COUNTS. Prove the row's statement (the work); the ties are given (YtpgdefaiojjjfabDoorTie.lean); close each card by the builder's one call (the guide's Derived/Test/ToyasCard.lean, 'card_holds'). Laid BY PROGRAM, IN A SANDBOX (cutbox-door.mjs). By AI agents, Wed Nov 11 2026. No macro, syntax, notation, axiom, sorry.
-/
import Derived.Test.YtpgdefaiojjjfabDoorRows
import GoSem.ClaimSeven
namespace Go.Proofs.YtpgdefaiojjjfabDoor
namespace Rows

/-- THE TIED CARD OF 'laws.FnExactItvWide'. -/
def fnExactItvWideCard : Claim7 := { stood := { row := fnExactItvWideRow, standIns := [], harness := (true, "039272bf9fa52c839b1ef0f3c53376dacc185149ee8a729b407e113373a8380d"), looks := false }, kinds := [], alts := [], laidByText := true, laidKinds := [.data], laidTests := true, laidLooks := .later }
def FnExactItvWideCardSaid : Prop := Claim7.holds Tryd.pinned (.plain (OpenSpec.ofChange fnExactItvWideSpec)) fnExactItvWideCard

/-- THE TIED CARD OF 'laws.FnExactItvText'. -/
def fnExactItvTextCard : Claim7 := { stood := { row := fnExactItvTextRow, standIns := [], harness := (true, "039272bf9fa52c839b1ef0f3c53376dacc185149ee8a729b407e113373a8380d"), looks := false }, kinds := [], alts := [], laidByText := true, laidKinds := [.data, .data, .data], laidTests := true, laidLooks := .later }
def FnExactItvTextCardSaid : Prop := Claim7.holds Tryd.pinned (.plain (OpenSpec.ofChange fnExactItvTextSpec)) fnExactItvTextCard

/-- THE SECOND FORM's CARD OF 'laws.FnExactItvWide'. -/
def fnExactItvWideUptoCard : Claim7 := { stood := { row := fnExactItvWideUptoRow, standIns := [], harness := (true, "039272bf9fa52c839b1ef0f3c53376dacc185149ee8a729b407e113373a8380d"), looks := false }, kinds := [], alts := [], laidByText := true, laidKinds := [.data], laidTests := true, laidLooks := .later }
def FnExactItvWideUptoCardSaid : Prop := Claim7.holds Tryd.pinned (.plain (OpenSpec.upto fnExactItvWideSpec)) fnExactItvWideUptoCard

/-- THE SECOND FORM's CARD OF 'laws.FnExactItvText'. -/
def fnExactItvTextUptoCard : Claim7 := { stood := { row := fnExactItvTextUptoRow, standIns := [], harness := (true, "039272bf9fa52c839b1ef0f3c53376dacc185149ee8a729b407e113373a8380d"), looks := false }, kinds := [], alts := [], laidByText := true, laidKinds := [.data, .data, .data], laidTests := true, laidLooks := .later }
def FnExactItvTextUptoCardSaid : Prop := Claim7.holds Tryd.pinned (.plain (OpenSpec.upto fnExactItvTextSpec)) fnExactItvTextUptoCard
end Rows
end Go.Proofs.YtpgdefaiojjjfabDoor
