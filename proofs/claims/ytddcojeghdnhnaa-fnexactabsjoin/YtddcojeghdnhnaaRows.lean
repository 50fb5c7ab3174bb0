/-
  No cell of these rows narrows 'for every input' (looked for: loops, veiled, ifaces, maps, wideKeys, modest, calm, conditions, laid).
  DERIVED. THE GIVEN ROWS OF THIS SEAT. 6 by the template 'for every input the law returns true; each argument reads behind the call as it read before'; 0 by the template 'total and deterministic' (their statements: YtddcojeghdnhnaaTotals.lean).
  GIVEN WITH THE SEED: the statements are not yours to turn. If you find one false, say at which input.
  Laid BY PROGRAM, IN A SANDBOX (cutbox-rows.mjs): the forced cells as the released guide's own fill.sh prints them over the translation 60f204bad9ca46ab… (all of the seat's roots in one cut). By AI agents, Wed Nov 11 2026. No macro, syntax, notation, axiom, sorry.
-/
import Derived.Test.YtddcojeghdnhnaaChecked
import GoSem.Claim
import GoSem.ClaimJoined
import GoSem.ClaimMapViews
import Derived.JoinedTies
import Derived.KernelRfl
namespace Go.Proofs.Ytddcojeghdnhnaa
/- THE CELL 'sum', in the pinned program and in every row, IS THE sha256 OF THE DUMP (.gsa) THAT YtddcojeghdnhnaaProg.lean LOADS. Nothing in Lean hashes anything: it is a label: what it is worth is what the hold of that sum in a sandbox is worth. -/
noncomputable def Try.pinned : Pinned := { name := "ytddcojeghdnhnaa", sum := "60f204bad9ca46ab5a7bee9dd024501b775acd6d7711b20e767b975114040f65", checked := Try.checked }
namespace Rows
def none {H : Type} : Left H := { results := [], args := [] }

/-- 'laws.FnExactAbsOk': WHATEVER THE INPUT: true; the input reads as it did. -/
def fnExactAbsOkSpec : ChangeSpec := { name := "fnExactAbsOk", fn := fun _ => fun
  | [d] => { results := [.lit (.bool true)], args := [d] }
  | _ => none }
def fnExactAbsOkRow : OpenClaim := { program := "ytddcojeghdnhnaa", sum := "60f204bad9ca46ab5a7bee9dd024501b775acd6d7711b20e767b975114040f65", func := "loop.example/outwork/laws.FnExactAbsOk", spec := "fnExactAbsOk", apart := false }
def FnExactAbsOkSaid : Prop := fnExactAbsOkRow.holds Try.pinned (OpenSpec.ofChange fnExactAbsOkSpec)

/-- ITS FALSE NEIGHBOUR: 'it returns false'. Refute it at one input. -/
def fnExactAbsOkWrong : ChangeSpec := { name := "fnExactAbsOk", fn := fun _ => fun
  | [d] => { results := [.lit (.bool false)], args := [d] }
  | _ => none }
def FnExactAbsOkWrongFalsely : Prop := fnExactAbsOkRow.holds Try.pinned (OpenSpec.ofChange fnExactAbsOkWrong)

/-- 'laws.FnExactAbsEntry': WHATEVER THE INPUT: true; the input reads as it did. -/
def fnExactAbsEntrySpec : ChangeSpec := { name := "fnExactAbsEntry", fn := fun _ => fun
  | [d] => { results := [.lit (.bool true)], args := [d] }
  | _ => none }
def fnExactAbsEntryRow : OpenClaim := { program := "ytddcojeghdnhnaa", sum := "60f204bad9ca46ab5a7bee9dd024501b775acd6d7711b20e767b975114040f65", func := "loop.example/outwork/laws.FnExactAbsEntry", spec := "fnExactAbsEntry", apart := false }
def FnExactAbsEntrySaid : Prop := fnExactAbsEntryRow.holds Try.pinned (OpenSpec.ofChange fnExactAbsEntrySpec)

/-- ITS FALSE NEIGHBOUR: 'it returns false'. Refute it at one input. -/
def fnExactAbsEntryWrong : ChangeSpec := { name := "fnExactAbsEntry", fn := fun _ => fun
  | [d] => { results := [.lit (.bool false)], args := [d] }
  | _ => none }
def FnExactAbsEntryWrongFalsely : Prop := fnExactAbsEntryRow.holds Try.pinned (OpenSpec.ofChange fnExactAbsEntryWrong)

/-- 'laws.FnExactAbsIn': WHATEVER THE INPUT: true; the input reads as it did. -/
def fnExactAbsInSpec : ChangeSpec := { name := "fnExactAbsIn", fn := fun _ => fun
  | [d1, d2] => { results := [.lit (.bool true)], args := [d1, d2] }
  | _ => none }
def fnExactAbsInRow : OpenClaim := { program := "ytddcojeghdnhnaa", sum := "60f204bad9ca46ab5a7bee9dd024501b775acd6d7711b20e767b975114040f65", func := "loop.example/outwork/laws.FnExactAbsIn", spec := "fnExactAbsIn", apart := false }
def FnExactAbsInSaid : Prop := fnExactAbsInRow.holds Try.pinned (OpenSpec.ofChange fnExactAbsInSpec)

/-- ITS FALSE NEIGHBOUR: 'it returns false'. Refute it at one input. -/
def fnExactAbsInWrong : ChangeSpec := { name := "fnExactAbsIn", fn := fun _ => fun
  | [d1, d2] => { results := [.lit (.bool false)], args := [d1, d2] }
  | _ => none }
def FnExactAbsInWrongFalsely : Prop := fnExactAbsInRow.holds Try.pinned (OpenSpec.ofChange fnExactAbsInWrong)

/-- 'laws.FnExactAbsJoin': WHATEVER THE INPUT: true; the input reads as it did. -/
def fnExactAbsJoinSpec : ChangeSpec := { name := "fnExactAbsJoin", fn := fun _ => fun
  | [d1, d2] => { results := [.lit (.bool true)], args := [d1, d2] }
  | _ => none }
def fnExactAbsJoinRow : OpenClaim := { program := "ytddcojeghdnhnaa", sum := "60f204bad9ca46ab5a7bee9dd024501b775acd6d7711b20e767b975114040f65", func := "loop.example/outwork/laws.FnExactAbsJoin", spec := "fnExactAbsJoin", unfollowed := true, recurses := true, apart := false }
def FnExactAbsJoinSaid : Prop := fnExactAbsJoinRow.holds Try.pinned (OpenSpec.ofChange fnExactAbsJoinSpec)

/-- ITS FALSE NEIGHBOUR: 'it returns false'. Refute it at one input. -/
def fnExactAbsJoinWrong : ChangeSpec := { name := "fnExactAbsJoin", fn := fun _ => fun
  | [d1, d2] => { results := [.lit (.bool false)], args := [d1, d2] }
  | _ => none }
def FnExactAbsJoinWrongFalsely : Prop := fnExactAbsJoinRow.holds Try.pinned (OpenSpec.ofChange fnExactAbsJoinWrong)

/-- 'laws.FnExactAbsHas': WHATEVER THE INPUT: true; the input reads as it did. -/
def fnExactAbsHasSpec : ChangeSpec := { name := "fnExactAbsHas", fn := fun _ => fun
  | [d1, d2, d3] => { results := [.lit (.bool true)], args := [d1, d2, d3] }
  | _ => none }
def fnExactAbsHasRow : OpenClaim := { program := "ytddcojeghdnhnaa", sum := "60f204bad9ca46ab5a7bee9dd024501b775acd6d7711b20e767b975114040f65", func := "loop.example/outwork/laws.FnExactAbsHas", spec := "fnExactAbsHas", apart := false }
def FnExactAbsHasSaid : Prop := fnExactAbsHasRow.holds Try.pinned (OpenSpec.ofChange fnExactAbsHasSpec)

/-- ITS FALSE NEIGHBOUR: 'it returns false'. Refute it at one input. -/
def fnExactAbsHasWrong : ChangeSpec := { name := "fnExactAbsHas", fn := fun _ => fun
  | [d1, d2, d3] => { results := [.lit (.bool false)], args := [d1, d2, d3] }
  | _ => none }
def FnExactAbsHasWrongFalsely : Prop := fnExactAbsHasRow.holds Try.pinned (OpenSpec.ofChange fnExactAbsHasWrong)

/-- 'laws.FnExactAbsOut': WHATEVER THE INPUT: true; the input reads as it did. -/
def fnExactAbsOutSpec : ChangeSpec := { name := "fnExactAbsOut", fn := fun _ => fun
  | [d1, d2] => { results := [.lit (.bool true)], args := [d1, d2] }
  | _ => none }
def fnExactAbsOutRow : OpenClaim := { program := "ytddcojeghdnhnaa", sum := "60f204bad9ca46ab5a7bee9dd024501b775acd6d7711b20e767b975114040f65", func := "loop.example/outwork/laws.FnExactAbsOut", spec := "fnExactAbsOut", apart := false }
def FnExactAbsOutSaid : Prop := fnExactAbsOutRow.holds Try.pinned (OpenSpec.ofChange fnExactAbsOutSpec)

/-- ITS FALSE NEIGHBOUR: 'it returns false'. Refute it at one input. -/
def fnExactAbsOutWrong : ChangeSpec := { name := "fnExactAbsOut", fn := fun _ => fun
  | [d1, d2] => { results := [.lit (.bool false)], args := [d1, d2] }
  | _ => none }
def FnExactAbsOutWrongFalsely : Prop := fnExactAbsOutRow.holds Try.pinned (OpenSpec.ofChange fnExactAbsOutWrong)

/- THE SECOND FORM. 'bulk': how many values and letters a reading holds, each counted each time it is reached (what is shared counts as often as it is met; a slice's spare places count too). A statement '..UptoSaid' is the law's where the arguments, and the package variables that the reading takes, are together of bulk at most 1048576: NARROWER than '..Said'. Prove '..Said' where nothing that the law and all that it calls make is longer than what came in: it says more and counts as full. Else prove '..UptoSaid'. A law counts once. -/
mutual
def uptoBulk {H : Type} : DataW H → Nat
  | .lit (.string bytes) => bytes.length + 1
  | .lit _ => 1
  | .nil => 1
  | .ptr d => uptoBulk d + 1
  | .slice elems spare => uptoBulkAll elems + uptoBulkAll spare + 1
  | .agg parts => uptoBulkAll parts + 1
  | .iface _ d => uptoBulk d + 1
  | .map entries => uptoBulkEntries entries + 1
  | .held _ => 1
def uptoBulkAll {H : Type} : List (DataW H) → Nat
  | [] => 0
  | d :: r => uptoBulk d + uptoBulkAll r
def uptoBulkEntries {H : Type} : List (Lit × DataW H) → Nat
  | [] => 0
  | x :: r => uptoBulkEntry x + uptoBulkEntries r
def uptoBulkEntry {H : Type} : Lit × DataW H → Nat
  | (.string bytes, d) => bytes.length + uptoBulk d + 1
  | (_, d) => uptoBulk d + 1
 end
def uptoSmall : (H : Type) → List (DataW H) → Bool := fun _ ds => decide (uptoBulkAll ds ≤ 1048576)
def OpenSpec.upto (s : _root_.Go.ChangeSpec) : _root_.Go.OpenSpec := { _root_.Go.OpenSpec.ofChange s with cond := some uptoSmall }

/-- 'laws.FnExactAbsOk', WHERE WHAT IT READS IS OF BULK AT MOST 1048576: true; the input reads as it did. -/
def fnExactAbsOkUptoRow : OpenClaim := { program := "ytddcojeghdnhnaa", sum := "60f204bad9ca46ab5a7bee9dd024501b775acd6d7711b20e767b975114040f65", func := "loop.example/outwork/laws.FnExactAbsOk", spec := "fnExactAbsOk", apart := false, narrowed := true }
def FnExactAbsOkUptoSaid : Prop := fnExactAbsOkUptoRow.holds Try.pinned (OpenSpec.upto fnExactAbsOkSpec)

/-- 'laws.FnExactAbsEntry', WHERE WHAT IT READS IS OF BULK AT MOST 1048576: true; the input reads as it did. -/
def fnExactAbsEntryUptoRow : OpenClaim := { program := "ytddcojeghdnhnaa", sum := "60f204bad9ca46ab5a7bee9dd024501b775acd6d7711b20e767b975114040f65", func := "loop.example/outwork/laws.FnExactAbsEntry", spec := "fnExactAbsEntry", apart := false, narrowed := true }
def FnExactAbsEntryUptoSaid : Prop := fnExactAbsEntryUptoRow.holds Try.pinned (OpenSpec.upto fnExactAbsEntrySpec)

/-- 'laws.FnExactAbsIn', WHERE WHAT IT READS IS OF BULK AT MOST 1048576: true; the input reads as it did. -/
def fnExactAbsInUptoRow : OpenClaim := { program := "ytddcojeghdnhnaa", sum := "60f204bad9ca46ab5a7bee9dd024501b775acd6d7711b20e767b975114040f65", func := "loop.example/outwork/laws.FnExactAbsIn", spec := "fnExactAbsIn", apart := false, narrowed := true }
def FnExactAbsInUptoSaid : Prop := fnExactAbsInUptoRow.holds Try.pinned (OpenSpec.upto fnExactAbsInSpec)

/-- 'laws.FnExactAbsJoin', WHERE WHAT IT READS IS OF BULK AT MOST 1048576: true; the input reads as it did. -/
def fnExactAbsJoinUptoRow : OpenClaim := { program := "ytddcojeghdnhnaa", sum := "60f204bad9ca46ab5a7bee9dd024501b775acd6d7711b20e767b975114040f65", func := "loop.example/outwork/laws.FnExactAbsJoin", spec := "fnExactAbsJoin", unfollowed := true, recurses := true, apart := false, narrowed := true }
def FnExactAbsJoinUptoSaid : Prop := fnExactAbsJoinUptoRow.holds Try.pinned (OpenSpec.upto fnExactAbsJoinSpec)

/-- 'laws.FnExactAbsHas', WHERE WHAT IT READS IS OF BULK AT MOST 1048576: true; the input reads as it did. -/
def fnExactAbsHasUptoRow : OpenClaim := { program := "ytddcojeghdnhnaa", sum := "60f204bad9ca46ab5a7bee9dd024501b775acd6d7711b20e767b975114040f65", func := "loop.example/outwork/laws.FnExactAbsHas", spec := "fnExactAbsHas", apart := false, narrowed := true }
def FnExactAbsHasUptoSaid : Prop := fnExactAbsHasUptoRow.holds Try.pinned (OpenSpec.upto fnExactAbsHasSpec)

/-- 'laws.FnExactAbsOut', WHERE WHAT IT READS IS OF BULK AT MOST 1048576: true; the input reads as it did. -/
def fnExactAbsOutUptoRow : OpenClaim := { program := "ytddcojeghdnhnaa", sum := "60f204bad9ca46ab5a7bee9dd024501b775acd6d7711b20e767b975114040f65", func := "loop.example/outwork/laws.FnExactAbsOut", spec := "fnExactAbsOut", apart := false, narrowed := true }
def FnExactAbsOutUptoSaid : Prop := fnExactAbsOutUptoRow.holds Try.pinned (OpenSpec.upto fnExactAbsOutSpec)

end Rows
end Go.Proofs.Ytddcojeghdnhnaa
