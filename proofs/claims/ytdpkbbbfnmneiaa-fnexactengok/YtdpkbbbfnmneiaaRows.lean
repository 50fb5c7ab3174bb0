/-
  No cell of these rows narrows 'for every input' (looked for: loops, veiled, ifaces, maps, wideKeys, modest, calm, conditions, laid).
  DERIVED. THE GIVEN ROWS OF THIS SEAT. 5 by the template 'for every input the law returns true; each argument reads behind the call as it read before'; 0 by the template 'total and deterministic' (their statements: YtdpkbbbfnmneiaaTotals.lean).
  GIVEN WITH THE SEED: the statements are not yours to turn. If you find one false, say at which input.
  Laid BY PROGRAM, IN A SANDBOX (cutbox-rows.mjs): the forced cells as the released guide's own fill.sh prints them over the translation 956a74216685931c… (all of the seat's roots in one cut). By AI agents, Wed Nov 11 2026. No macro, syntax, notation, axiom, sorry.
-/
import Derived.Test.YtdpkbbbfnmneiaaChecked
import GoSem.Claim
import GoSem.ClaimJoined
import GoSem.ClaimMapViews
import Derived.JoinedTies
import Derived.KernelRfl
namespace Go.Proofs.Ytdpkbbbfnmneiaa
/- THE CELL 'sum', in the pinned program and in every row, IS THE sha256 OF THE DUMP (.gsa) THAT YtdpkbbbfnmneiaaProg.lean LOADS. Nothing in Lean hashes anything: it is a label: what it is worth is what the hold of that sum in a sandbox is worth. -/
noncomputable def Try.pinned : Pinned := { name := "ytdpkbbbfnmneiaa", sum := "956a74216685931c53d955619b7635f8bd479814fcbdbcfc1e9df2b02a6fa2e5", checked := Try.checked }
namespace Rows
def none {H : Type} : Left H := { results := [], args := [] }

/-- 'laws.FnExactCrtOk': WHATEVER THE INPUT: true; the input reads as it did. -/
def fnExactCrtOkSpec : ChangeSpec := { name := "fnExactCrtOk", fn := fun _ => fun
  | [d1, d2, d3] => { results := [.lit (.bool true)], args := [d1, d2, d3] }
  | _ => none }
def fnExactCrtOkRow : OpenClaim := { program := "ytdpkbbbfnmneiaa", sum := "956a74216685931c53d955619b7635f8bd479814fcbdbcfc1e9df2b02a6fa2e5", func := "loop.example/outwork/laws.FnExactCrtOk", spec := "fnExactCrtOk", unfollowed := true, recurses := true, plainKeys := false, apart := false }
def FnExactCrtOkSaid : Prop := fnExactCrtOkRow.holds Try.pinned (OpenSpec.ofChange fnExactCrtOkSpec)

/-- ITS FALSE NEIGHBOUR: 'it returns false'. Refute it at one input. -/
def fnExactCrtOkWrong : ChangeSpec := { name := "fnExactCrtOk", fn := fun _ => fun
  | [d1, d2, d3] => { results := [.lit (.bool false)], args := [d1, d2, d3] }
  | _ => none }
def FnExactCrtOkWrongFalsely : Prop := fnExactCrtOkRow.holds Try.pinned (OpenSpec.ofChange fnExactCrtOkWrong)

/-- 'laws.FnExactEngOk': WHATEVER THE INPUT: true; the input reads as it did. -/
def fnExactEngOkSpec : ChangeSpec := { name := "fnExactEngOk", fn := fun _ => fun
  | [d1, d2, d3] => { results := [.lit (.bool true)], args := [d1, d2, d3] }
  | _ => none }
def fnExactEngOkRow : OpenClaim := { program := "ytdpkbbbfnmneiaa", sum := "956a74216685931c53d955619b7635f8bd479814fcbdbcfc1e9df2b02a6fa2e5", func := "loop.example/outwork/laws.FnExactEngOk", spec := "fnExactEngOk", unfollowed := true, recurses := true, plainKeys := false, apart := false }
def FnExactEngOkSaid : Prop := fnExactEngOkRow.holds Try.pinned (OpenSpec.ofChange fnExactEngOkSpec)

/-- ITS FALSE NEIGHBOUR: 'it returns false'. Refute it at one input. -/
def fnExactEngOkWrong : ChangeSpec := { name := "fnExactEngOk", fn := fun _ => fun
  | [d1, d2, d3] => { results := [.lit (.bool false)], args := [d1, d2, d3] }
  | _ => none }
def FnExactEngOkWrongFalsely : Prop := fnExactEngOkRow.holds Try.pinned (OpenSpec.ofChange fnExactEngOkWrong)

/-- 'laws.FnExactCrtStart': WHATEVER THE INPUT: true; the input reads as it did. -/
def fnExactCrtStartSpec : ChangeSpec := { name := "fnExactCrtStart", fn := fun _ => fun
  | [d1, d2] => { results := [.lit (.bool true)], args := [d1, d2] }
  | _ => none }
def fnExactCrtStartRow : OpenClaim := { program := "ytdpkbbbfnmneiaa", sum := "956a74216685931c53d955619b7635f8bd479814fcbdbcfc1e9df2b02a6fa2e5", func := "loop.example/outwork/laws.FnExactCrtStart", spec := "fnExactCrtStart", unfollowed := true, recurses := true, plainKeys := false, apart := false }
def FnExactCrtStartSaid : Prop := fnExactCrtStartRow.holds Try.pinned (OpenSpec.ofChange fnExactCrtStartSpec)

/-- ITS FALSE NEIGHBOUR: 'it returns false'. Refute it at one input. -/
def fnExactCrtStartWrong : ChangeSpec := { name := "fnExactCrtStart", fn := fun _ => fun
  | [d1, d2] => { results := [.lit (.bool false)], args := [d1, d2] }
  | _ => none }
def FnExactCrtStartWrongFalsely : Prop := fnExactCrtStartRow.holds Try.pinned (OpenSpec.ofChange fnExactCrtStartWrong)

/-- 'laws.FnExactEngNew': WHATEVER THE INPUT: true; the input reads as it did. -/
def fnExactEngNewSpec : ChangeSpec := { name := "fnExactEngNew", fn := fun _ => fun
  | [d1, d2] => { results := [.lit (.bool true)], args := [d1, d2] }
  | _ => none }
def fnExactEngNewRow : OpenClaim := { program := "ytdpkbbbfnmneiaa", sum := "956a74216685931c53d955619b7635f8bd479814fcbdbcfc1e9df2b02a6fa2e5", func := "loop.example/outwork/laws.FnExactEngNew", spec := "fnExactEngNew", unfollowed := true, recurses := true, plainKeys := false, apart := false }
def FnExactEngNewSaid : Prop := fnExactEngNewRow.holds Try.pinned (OpenSpec.ofChange fnExactEngNewSpec)

/-- ITS FALSE NEIGHBOUR: 'it returns false'. Refute it at one input. -/
def fnExactEngNewWrong : ChangeSpec := { name := "fnExactEngNew", fn := fun _ => fun
  | [d1, d2] => { results := [.lit (.bool false)], args := [d1, d2] }
  | _ => none }
def FnExactEngNewWrongFalsely : Prop := fnExactEngNewRow.holds Try.pinned (OpenSpec.ofChange fnExactEngNewWrong)

/-- 'laws.FnExactAbsFails': WHATEVER THE INPUT: true; the input reads as it did. -/
def fnExactAbsFailsSpec : ChangeSpec := { name := "fnExactAbsFails", fn := fun _ => fun
  | [d1, d2, d3] => { results := [.lit (.bool true)], args := [d1, d2, d3] }
  | _ => none }
def fnExactAbsFailsRow : OpenClaim := { program := "ytdpkbbbfnmneiaa", sum := "956a74216685931c53d955619b7635f8bd479814fcbdbcfc1e9df2b02a6fa2e5", func := "loop.example/outwork/laws.FnExactAbsFails", spec := "fnExactAbsFails", unfollowed := true, recurses := true, plainKeys := false, apart := false }
def FnExactAbsFailsSaid : Prop := fnExactAbsFailsRow.holds Try.pinned (OpenSpec.ofChange fnExactAbsFailsSpec)

/-- ITS FALSE NEIGHBOUR: 'it returns false'. Refute it at one input. -/
def fnExactAbsFailsWrong : ChangeSpec := { name := "fnExactAbsFails", fn := fun _ => fun
  | [d1, d2, d3] => { results := [.lit (.bool false)], args := [d1, d2, d3] }
  | _ => none }
def FnExactAbsFailsWrongFalsely : Prop := fnExactAbsFailsRow.holds Try.pinned (OpenSpec.ofChange fnExactAbsFailsWrong)

/- THE SECOND FORM. 'bulk': how many values and letters a reading holds, each counted each time it is reached (what is shared counts as often as it is met; a slice's spare places count too). A statement '..UptoSaid' is the law's where the arguments, and the package variables that the reading takes, are together of bulk at most 1048576: NARROWER than '..Said'. Prove '..Said' where nothing that the law and all that it calls make is longer than what came in: it says more and counts as full. Else prove '..UptoSaid'. A law counts once. -/
mutual
def uptoBulk {H : Type} : DataW H → Nat
  | .lit (.string bytes) => bytes.length + 1
  | .lit _ => 1
  | .nil => 1
  | .ptr d => uptoBulk d + 1
  | .slice elems spare => uptoBulkAll elems + uptoBulkAll spare + 1
  | .agg parts => uptoBulkAll parts + 1
  | .iface _ d => uptoBulk d + 1
  | .map entries => uptoBulkEntries entries + 1
  | .held _ => 1
def uptoBulkAll {H : Type} : List (DataW H) → Nat
  | [] => 0
  | d :: r => uptoBulk d + uptoBulkAll r
def uptoBulkEntries {H : Type} : List (Lit × DataW H) → Nat
  | [] => 0
  | x :: r => uptoBulkEntry x + uptoBulkEntries r
def uptoBulkEntry {H : Type} : Lit × DataW H → Nat
  | (.string bytes, d) => bytes.length + uptoBulk d + 1
  | (_, d) => uptoBulk d + 1
 end
def uptoSmall : (H : Type) → List (DataW H) → Bool := fun _ ds => decide (uptoBulkAll ds ≤ 1048576)
def OpenSpec.upto (s : _root_.Go.ChangeSpec) : _root_.Go.OpenSpec := { _root_.Go.OpenSpec.ofChange s with cond := some uptoSmall }

/-- 'laws.FnExactCrtOk', WHERE WHAT IT READS IS OF BULK AT MOST 1048576: true; the input reads as it did. -/
def fnExactCrtOkUptoRow : OpenClaim := { program := "ytdpkbbbfnmneiaa", sum := "956a74216685931c53d955619b7635f8bd479814fcbdbcfc1e9df2b02a6fa2e5", func := "loop.example/outwork/laws.FnExactCrtOk", spec := "fnExactCrtOk", unfollowed := true, recurses := true, plainKeys := false, apart := false, narrowed := true }
def FnExactCrtOkUptoSaid : Prop := fnExactCrtOkUptoRow.holds Try.pinned (OpenSpec.upto fnExactCrtOkSpec)

/-- 'laws.FnExactEngOk', WHERE WHAT IT READS IS OF BULK AT MOST 1048576: true; the input reads as it did. -/
def fnExactEngOkUptoRow : OpenClaim := { program := "ytdpkbbbfnmneiaa", sum := "956a74216685931c53d955619b7635f8bd479814fcbdbcfc1e9df2b02a6fa2e5", func := "loop.example/outwork/laws.FnExactEngOk", spec := "fnExactEngOk", unfollowed := true, recurses := true, plainKeys := false, apart := false, narrowed := true }
def FnExactEngOkUptoSaid : Prop := fnExactEngOkUptoRow.holds Try.pinned (OpenSpec.upto fnExactEngOkSpec)

/-- 'laws.FnExactCrtStart', WHERE WHAT IT READS IS OF BULK AT MOST 1048576: true; the input reads as it did. -/
def fnExactCrtStartUptoRow : OpenClaim := { program := "ytdpkbbbfnmneiaa", sum := "956a74216685931c53d955619b7635f8bd479814fcbdbcfc1e9df2b02a6fa2e5", func := "loop.example/outwork/laws.FnExactCrtStart", spec := "fnExactCrtStart", unfollowed := true, recurses := true, plainKeys := false, apart := false, narrowed := true }
def FnExactCrtStartUptoSaid : Prop := fnExactCrtStartUptoRow.holds Try.pinned (OpenSpec.upto fnExactCrtStartSpec)

/-- 'laws.FnExactEngNew', WHERE WHAT IT READS IS OF BULK AT MOST 1048576: true; the input reads as it did. -/
def fnExactEngNewUptoRow : OpenClaim := { program := "ytdpkbbbfnmneiaa", sum := "956a74216685931c53d955619b7635f8bd479814fcbdbcfc1e9df2b02a6fa2e5", func := "loop.example/outwork/laws.FnExactEngNew", spec := "fnExactEngNew", unfollowed := true, recurses := true, plainKeys := false, apart := false, narrowed := true }
def FnExactEngNewUptoSaid : Prop := fnExactEngNewUptoRow.holds Try.pinned (OpenSpec.upto fnExactEngNewSpec)

/-- 'laws.FnExactAbsFails', WHERE WHAT IT READS IS OF BULK AT MOST 1048576: true; the input reads as it did. -/
def fnExactAbsFailsUptoRow : OpenClaim := { program := "ytdpkbbbfnmneiaa", sum := "956a74216685931c53d955619b7635f8bd479814fcbdbcfc1e9df2b02a6fa2e5", func := "loop.example/outwork/laws.FnExactAbsFails", spec := "fnExactAbsFails", unfollowed := true, recurses := true, plainKeys := false, apart := false, narrowed := true }
def FnExactAbsFailsUptoSaid : Prop := fnExactAbsFailsUptoRow.holds Try.pinned (OpenSpec.upto fnExactAbsFailsSpec)

end Rows
end Go.Proofs.Ytdpkbbbfnmneiaa
