/-
  No cell of these rows narrows 'for every input' (looked for: loops, veiled, ifaces, maps, wideKeys, modest, calm, conditions, laid).
  DERIVED. THE GIVEN ROWS OF THIS SEAT. 6 by the template 'for every input the law returns true; each argument reads behind the call as it read before'; 0 by the template 'total and deterministic' (their statements: YtpgdefaiojjjfaaTotals.lean).
  GIVEN WITH THE SEED: the statements are not yours to turn. If you find one false, say at which input.
  Laid BY PROGRAM, IN A SANDBOX (cutbox-rows.mjs): the forced cells as the released guide's own fill.sh prints them over the translation b2e5f5ae37865906… (all of the seat's roots in one cut). By AI agents, Wed Nov 11 2026. No macro, syntax, notation, axiom, sorry.
-/
import Derived.Test.YtpgdefaiojjjfaaChecked
import GoSem.Claim
import GoSem.ClaimJoined
import GoSem.ClaimMapViews
import Derived.JoinedTies
import Derived.KernelRfl
namespace Go.Proofs.Ytpgdefaiojjjfaa
/- THE CELL 'sum', in the pinned program and in every row, IS THE sha256 OF THE DUMP (.gsa) THAT YtpgdefaiojjjfaaProg.lean LOADS. Nothing in Lean hashes anything: it is a label: what it is worth is what the hold of that sum in a sandbox is worth. -/
noncomputable def Try.pinned : Pinned := { name := "ytpgdefaiojjjfaa", sum := "b2e5f5ae378659061a18d183df6c6b2a8b3189c7aac219ade17efe7b9695f155", checked := Try.checked }
namespace Rows
def none {H : Type} : Left H := { results := [], args := [] }

/-- 'laws.FnExactItvOk': WHATEVER THE INPUT: true; the input reads as it did. -/
def fnExactItvOkSpec : ChangeSpec := { name := "fnExactItvOk", fn := fun _ => fun
  | [d] => { results := [.lit (.bool true)], args := [d] }
  | _ => none }
def fnExactItvOkRow : OpenClaim := { program := "ytpgdefaiojjjfaa", sum := "b2e5f5ae378659061a18d183df6c6b2a8b3189c7aac219ade17efe7b9695f155", func := "loop.example/outwork/laws.FnExactItvOk", spec := "fnExactItvOk", apart := false }
def FnExactItvOkSaid : Prop := fnExactItvOkRow.holds Try.pinned (OpenSpec.ofChange fnExactItvOkSpec)

/-- ITS FALSE NEIGHBOUR: 'it returns false'. Refute it at one input. -/
def fnExactItvOkWrong : ChangeSpec := { name := "fnExactItvOk", fn := fun _ => fun
  | [d] => { results := [.lit (.bool false)], args := [d] }
  | _ => none }
def FnExactItvOkWrongFalsely : Prop := fnExactItvOkRow.holds Try.pinned (OpenSpec.ofChange fnExactItvOkWrong)

/-- 'laws.FnExactItvAll': WHATEVER THE INPUT: true; the input reads as it did. -/
def fnExactItvAllSpec : ChangeSpec := { name := "fnExactItvAll", fn := fun _ => fun
  | [] => { results := [.lit (.bool true)], args := [] }
  | _ => none }
def fnExactItvAllRow : OpenClaim := { program := "ytpgdefaiojjjfaa", sum := "b2e5f5ae378659061a18d183df6c6b2a8b3189c7aac219ade17efe7b9695f155", func := "loop.example/outwork/laws.FnExactItvAll", spec := "fnExactItvAll", apart := false }
def FnExactItvAllSaid : Prop := fnExactItvAllRow.holds Try.pinned (OpenSpec.ofChange fnExactItvAllSpec)

/-- ITS FALSE NEIGHBOUR: 'it returns false'. Refute it at one input. -/
def fnExactItvAllWrong : ChangeSpec := { name := "fnExactItvAll", fn := fun _ => fun
  | [] => { results := [.lit (.bool false)], args := [] }
  | _ => none }
def FnExactItvAllWrongFalsely : Prop := fnExactItvAllRow.holds Try.pinned (OpenSpec.ofChange fnExactItvAllWrong)

/-- 'laws.FnExactItvHas': WHATEVER THE INPUT: true; the input reads as it did. -/
def fnExactItvHasSpec : ChangeSpec := { name := "fnExactItvHas", fn := fun _ => fun
  | [d1, d2] => { results := [.lit (.bool true)], args := [d1, d2] }
  | _ => none }
def fnExactItvHasRow : OpenClaim := { program := "ytpgdefaiojjjfaa", sum := "b2e5f5ae378659061a18d183df6c6b2a8b3189c7aac219ade17efe7b9695f155", func := "loop.example/outwork/laws.FnExactItvHas", spec := "fnExactItvHas", apart := false }
def FnExactItvHasSaid : Prop := fnExactItvHasRow.holds Try.pinned (OpenSpec.ofChange fnExactItvHasSpec)

/-- ITS FALSE NEIGHBOUR: 'it returns false'. Refute it at one input. -/
def fnExactItvHasWrong : ChangeSpec := { name := "fnExactItvHas", fn := fun _ => fun
  | [d1, d2] => { results := [.lit (.bool false)], args := [d1, d2] }
  | _ => none }
def FnExactItvHasWrongFalsely : Prop := fnExactItvHasRow.holds Try.pinned (OpenSpec.ofChange fnExactItvHasWrong)

/-- 'laws.FnExactItvIn': WHATEVER THE INPUT: true; the input reads as it did. -/
def fnExactItvInSpec : ChangeSpec := { name := "fnExactItvIn", fn := fun _ => fun
  | [d1, d2] => { results := [.lit (.bool true)], args := [d1, d2] }
  | _ => none }
def fnExactItvInRow : OpenClaim := { program := "ytpgdefaiojjjfaa", sum := "b2e5f5ae378659061a18d183df6c6b2a8b3189c7aac219ade17efe7b9695f155", func := "loop.example/outwork/laws.FnExactItvIn", spec := "fnExactItvIn", apart := false }
def FnExactItvInSaid : Prop := fnExactItvInRow.holds Try.pinned (OpenSpec.ofChange fnExactItvInSpec)

/-- ITS FALSE NEIGHBOUR: 'it returns false'. Refute it at one input. -/
def fnExactItvInWrong : ChangeSpec := { name := "fnExactItvIn", fn := fun _ => fun
  | [d1, d2] => { results := [.lit (.bool false)], args := [d1, d2] }
  | _ => none }
def FnExactItvInWrongFalsely : Prop := fnExactItvInRow.holds Try.pinned (OpenSpec.ofChange fnExactItvInWrong)

/-- 'laws.FnExactItvJoin': WHATEVER THE INPUT: true; the input reads as it did. -/
def fnExactItvJoinSpec : ChangeSpec := { name := "fnExactItvJoin", fn := fun _ => fun
  | [d1, d2] => { results := [.lit (.bool true)], args := [d1, d2] }
  | _ => none }
def fnExactItvJoinRow : OpenClaim := { program := "ytpgdefaiojjjfaa", sum := "b2e5f5ae378659061a18d183df6c6b2a8b3189c7aac219ade17efe7b9695f155", func := "loop.example/outwork/laws.FnExactItvJoin", spec := "fnExactItvJoin", apart := false }
def FnExactItvJoinSaid : Prop := fnExactItvJoinRow.holds Try.pinned (OpenSpec.ofChange fnExactItvJoinSpec)

/-- ITS FALSE NEIGHBOUR: 'it returns false'. Refute it at one input. -/
def fnExactItvJoinWrong : ChangeSpec := { name := "fnExactItvJoin", fn := fun _ => fun
  | [d1, d2] => { results := [.lit (.bool false)], args := [d1, d2] }
  | _ => none }
def FnExactItvJoinWrongFalsely : Prop := fnExactItvJoinRow.holds Try.pinned (OpenSpec.ofChange fnExactItvJoinWrong)

/-- 'laws.FnExactItvMeet': WHATEVER THE INPUT: true; the input reads as it did. -/
def fnExactItvMeetSpec : ChangeSpec := { name := "fnExactItvMeet", fn := fun _ => fun
  | [d1, d2] => { results := [.lit (.bool true)], args := [d1, d2] }
  | _ => none }
def fnExactItvMeetRow : OpenClaim := { program := "ytpgdefaiojjjfaa", sum := "b2e5f5ae378659061a18d183df6c6b2a8b3189c7aac219ade17efe7b9695f155", func := "loop.example/outwork/laws.FnExactItvMeet", spec := "fnExactItvMeet", apart := false }
def FnExactItvMeetSaid : Prop := fnExactItvMeetRow.holds Try.pinned (OpenSpec.ofChange fnExactItvMeetSpec)

/-- ITS FALSE NEIGHBOUR: 'it returns false'. Refute it at one input. -/
def fnExactItvMeetWrong : ChangeSpec := { name := "fnExactItvMeet", fn := fun _ => fun
  | [d1, d2] => { results := [.lit (.bool false)], args := [d1, d2] }
  | _ => none }
def FnExactItvMeetWrongFalsely : Prop := fnExactItvMeetRow.holds Try.pinned (OpenSpec.ofChange fnExactItvMeetWrong)

/- THE SECOND FORM. 'bulk': how many values and letters a reading holds, each counted each time it is reached (what is shared counts as often as it is met; a slice's spare places count too). A statement '..UptoSaid' is the law's where the arguments, and the package variables that the reading takes, are together of bulk at most 1048576: NARROWER than '..Said'. Prove '..Said' where nothing that the law and all that it calls make is longer than what came in: it says more and counts as full. Else prove '..UptoSaid'. A law counts once. -/
mutual
def uptoBulk {H : Type} : DataW H → Nat
  | .lit (.string bytes) => bytes.length + 1
  | .lit _ => 1
  | .nil => 1
  | .ptr d => uptoBulk d + 1
  | .slice elems spare => uptoBulkAll elems + uptoBulkAll spare + 1
  | .agg parts => uptoBulkAll parts + 1
  | .iface _ d => uptoBulk d + 1
  | .map entries => uptoBulkEntries entries + 1
  | .held _ => 1
def uptoBulkAll {H : Type} : List (DataW H) → Nat
  | [] => 0
  | d :: r => uptoBulk d + uptoBulkAll r
def uptoBulkEntries {H : Type} : List (Lit × DataW H) → Nat
  | [] => 0
  | x :: r => uptoBulkEntry x + uptoBulkEntries r
def uptoBulkEntry {H : Type} : Lit × DataW H → Nat
  | (.string bytes, d) => bytes.length + uptoBulk d + 1
  | (_, d) => uptoBulk d + 1
 end
def uptoSmall : (H : Type) → List (DataW H) → Bool := fun _ ds => decide (uptoBulkAll ds ≤ 1048576)
def OpenSpec.upto (s : _root_.Go.ChangeSpec) : _root_.Go.OpenSpec := { _root_.Go.OpenSpec.ofChange s with cond := some uptoSmall }

/-- 'laws.FnExactItvOk', WHERE WHAT IT READS IS OF BULK AT MOST 1048576: true; the input reads as it did. -/
def fnExactItvOkUptoRow : OpenClaim := { program := "ytpgdefaiojjjfaa", sum := "b2e5f5ae378659061a18d183df6c6b2a8b3189c7aac219ade17efe7b9695f155", func := "loop.example/outwork/laws.FnExactItvOk", spec := "fnExactItvOk", apart := false, narrowed := true }
def FnExactItvOkUptoSaid : Prop := fnExactItvOkUptoRow.holds Try.pinned (OpenSpec.upto fnExactItvOkSpec)

/-- 'laws.FnExactItvAll', WHERE WHAT IT READS IS OF BULK AT MOST 1048576: true; the input reads as it did. -/
def fnExactItvAllUptoRow : OpenClaim := { program := "ytpgdefaiojjjfaa", sum := "b2e5f5ae378659061a18d183df6c6b2a8b3189c7aac219ade17efe7b9695f155", func := "loop.example/outwork/laws.FnExactItvAll", spec := "fnExactItvAll", apart := false, narrowed := true }
def FnExactItvAllUptoSaid : Prop := fnExactItvAllUptoRow.holds Try.pinned (OpenSpec.upto fnExactItvAllSpec)

/-- 'laws.FnExactItvHas', WHERE WHAT IT READS IS OF BULK AT MOST 1048576: true; the input reads as it did. -/
def fnExactItvHasUptoRow : OpenClaim := { program := "ytpgdefaiojjjfaa", sum := "b2e5f5ae378659061a18d183df6c6b2a8b3189c7aac219ade17efe7b9695f155", func := "loop.example/outwork/laws.FnExactItvHas", spec := "fnExactItvHas", apart := false, narrowed := true }
def FnExactItvHasUptoSaid : Prop := fnExactItvHasUptoRow.holds Try.pinned (OpenSpec.upto fnExactItvHasSpec)

/-- 'laws.FnExactItvIn', WHERE WHAT IT READS IS OF BULK AT MOST 1048576: true; the input reads as it did. -/
def fnExactItvInUptoRow : OpenClaim := { program := "ytpgdefaiojjjfaa", sum := "b2e5f5ae378659061a18d183df6c6b2a8b3189c7aac219ade17efe7b9695f155", func := "loop.example/outwork/laws.FnExactItvIn", spec := "fnExactItvIn", apart := false, narrowed := true }
def FnExactItvInUptoSaid : Prop := fnExactItvInUptoRow.holds Try.pinned (OpenSpec.upto fnExactItvInSpec)

/-- 'laws.FnExactItvJoin', WHERE WHAT IT READS IS OF BULK AT MOST 1048576: true; the input reads as it did. -/
def fnExactItvJoinUptoRow : OpenClaim := { program := "ytpgdefaiojjjfaa", sum := "b2e5f5ae378659061a18d183df6c6b2a8b3189c7aac219ade17efe7b9695f155", func := "loop.example/outwork/laws.FnExactItvJoin", spec := "fnExactItvJoin", apart := false, narrowed := true }
def FnExactItvJoinUptoSaid : Prop := fnExactItvJoinUptoRow.holds Try.pinned (OpenSpec.upto fnExactItvJoinSpec)

/-- 'laws.FnExactItvMeet', WHERE WHAT IT READS IS OF BULK AT MOST 1048576: true; the input reads as it did. -/
def fnExactItvMeetUptoRow : OpenClaim := { program := "ytpgdefaiojjjfaa", sum := "b2e5f5ae378659061a18d183df6c6b2a8b3189c7aac219ade17efe7b9695f155", func := "loop.example/outwork/laws.FnExactItvMeet", spec := "fnExactItvMeet", apart := false, narrowed := true }
def FnExactItvMeetUptoSaid : Prop := fnExactItvMeetUptoRow.holds Try.pinned (OpenSpec.upto fnExactItvMeetSpec)

end Rows
end Go.Proofs.Ytpgdefaiojjjfaa
