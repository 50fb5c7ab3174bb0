/-
  No cell of these rows narrows 'for every input' (looked for: loops, veiled, ifaces, maps, wideKeys, modest, calm, conditions, laid).
  DERIVED. THE GIVEN ROWS OF THIS SEAT. 7 by the template 'for every input the law returns true; each argument reads behind the call as it read before'; 0 by the template 'total and deterministic' (their statements: YtndedplmcjfgeaaTotals.lean).
  GIVEN WITH THE SEED: the statements are not yours to turn. If you find one false, say at which input.
  Laid BY PROGRAM, IN A SANDBOX (cutbox-rows.mjs): the forced cells as the released guide's own fill.sh prints them over the translation 6d80bc239f136cb3… (all of the seat's roots in one cut). By AI agents, Wed Nov 11 2026. No macro, syntax, notation, axiom, sorry.
-/
import Derived.Test.YtndedplmcjfgeaaChecked
import GoSem.Claim
import GoSem.ClaimJoined
import GoSem.ClaimMapViews
import Derived.JoinedTies
import Derived.KernelRfl
namespace Go.Proofs.Ytndedplmcjfgeaa
/- THE CELL 'sum', in the pinned program and in every row, IS THE sha256 OF THE DUMP (.gsa) THAT YtndedplmcjfgeaaProg.lean LOADS. Nothing in Lean hashes anything: it is a label: what it is worth is what the hold of that sum in a sandbox is worth. -/
noncomputable def Try.pinned : Pinned := { name := "ytndedplmcjfgeaa", sum := "6d80bc239f136cb36f38dadb5af3cf83dad8d3afd42b5987c2876563dc4c4a06", checked := Try.checked }
namespace Rows
def none {H : Type} : Left H := { results := [], args := [] }

/-- 'laws.FnExactPrgSize': WHATEVER THE INPUT: true; the input reads as it did. -/
def fnExactPrgSizeSpec : ChangeSpec := { name := "fnExactPrgSize", fn := fun _ => fun
  | [d] => { results := [.lit (.bool true)], args := [d] }
  | _ => none }
def fnExactPrgSizeRow : OpenClaim := { program := "ytndedplmcjfgeaa", sum := "6d80bc239f136cb36f38dadb5af3cf83dad8d3afd42b5987c2876563dc4c4a06", func := "loop.example/outwork/laws.FnExactPrgSize", spec := "fnExactPrgSize", apart := false }
def FnExactPrgSizeSaid : Prop := fnExactPrgSizeRow.holds Try.pinned (OpenSpec.ofChange fnExactPrgSizeSpec)

/-- ITS FALSE NEIGHBOUR: 'it returns false'. Refute it at one input. -/
def fnExactPrgSizeWrong : ChangeSpec := { name := "fnExactPrgSize", fn := fun _ => fun
  | [d] => { results := [.lit (.bool false)], args := [d] }
  | _ => none }
def FnExactPrgSizeWrongFalsely : Prop := fnExactPrgSizeRow.holds Try.pinned (OpenSpec.ofChange fnExactPrgSizeWrong)

/-- 'laws.FnExactPrgAt': WHATEVER THE INPUT: true; the input reads as it did. -/
def fnExactPrgAtSpec : ChangeSpec := { name := "fnExactPrgAt", fn := fun _ => fun
  | [d1, d2, d3] => { results := [.lit (.bool true)], args := [d1, d2, d3] }
  | _ => none }
def fnExactPrgAtRow : OpenClaim := { program := "ytndedplmcjfgeaa", sum := "6d80bc239f136cb36f38dadb5af3cf83dad8d3afd42b5987c2876563dc4c4a06", func := "loop.example/outwork/laws.FnExactPrgAt", spec := "fnExactPrgAt", apart := false }
def FnExactPrgAtSaid : Prop := fnExactPrgAtRow.holds Try.pinned (OpenSpec.ofChange fnExactPrgAtSpec)

/-- ITS FALSE NEIGHBOUR: 'it returns false'. Refute it at one input. -/
def fnExactPrgAtWrong : ChangeSpec := { name := "fnExactPrgAt", fn := fun _ => fun
  | [d1, d2, d3] => { results := [.lit (.bool false)], args := [d1, d2, d3] }
  | _ => none }
def FnExactPrgAtWrongFalsely : Prop := fnExactPrgAtRow.holds Try.pinned (OpenSpec.ofChange fnExactPrgAtWrong)

/-- 'laws.FnExactPrgOk': WHATEVER THE INPUT: true; the input reads as it did. -/
def fnExactPrgOkSpec : ChangeSpec := { name := "fnExactPrgOk", fn := fun _ => fun
  | [d] => { results := [.lit (.bool true)], args := [d] }
  | _ => none }
def fnExactPrgOkRow : OpenClaim := { program := "ytndedplmcjfgeaa", sum := "6d80bc239f136cb36f38dadb5af3cf83dad8d3afd42b5987c2876563dc4c4a06", func := "loop.example/outwork/laws.FnExactPrgOk", spec := "fnExactPrgOk", unfollowed := true, recurses := true, apart := false }
def FnExactPrgOkSaid : Prop := fnExactPrgOkRow.holds Try.pinned (OpenSpec.ofChange fnExactPrgOkSpec)

/-- ITS FALSE NEIGHBOUR: 'it returns false'. Refute it at one input. -/
def fnExactPrgOkWrong : ChangeSpec := { name := "fnExactPrgOk", fn := fun _ => fun
  | [d] => { results := [.lit (.bool false)], args := [d] }
  | _ => none }
def FnExactPrgOkWrongFalsely : Prop := fnExactPrgOkRow.holds Try.pinned (OpenSpec.ofChange fnExactPrgOkWrong)

/-- 'laws.FnExactRunOk': WHATEVER THE INPUT: true; the input reads as it did. -/
def fnExactRunOkSpec : ChangeSpec := { name := "fnExactRunOk", fn := fun _ => fun
  | [d1, d2] => { results := [.lit (.bool true)], args := [d1, d2] }
  | _ => none }
def fnExactRunOkRow : OpenClaim := { program := "ytndedplmcjfgeaa", sum := "6d80bc239f136cb36f38dadb5af3cf83dad8d3afd42b5987c2876563dc4c4a06", func := "loop.example/outwork/laws.FnExactRunOk", spec := "fnExactRunOk", unfollowed := true, recurses := true, apart := false }
def FnExactRunOkSaid : Prop := fnExactRunOkRow.holds Try.pinned (OpenSpec.ofChange fnExactRunOkSpec)

/-- ITS FALSE NEIGHBOUR: 'it returns false'. Refute it at one input. -/
def fnExactRunOkWrong : ChangeSpec := { name := "fnExactRunOk", fn := fun _ => fun
  | [d1, d2] => { results := [.lit (.bool false)], args := [d1, d2] }
  | _ => none }
def FnExactRunOkWrongFalsely : Prop := fnExactRunOkRow.holds Try.pinned (OpenSpec.ofChange fnExactRunOkWrong)

/-- 'laws.FnExactRunDepth': WHATEVER THE INPUT: true; the input reads as it did. -/
def fnExactRunDepthSpec : ChangeSpec := { name := "fnExactRunDepth", fn := fun _ => fun
  | [d1, d2] => { results := [.lit (.bool true)], args := [d1, d2] }
  | _ => none }
def fnExactRunDepthRow : OpenClaim := { program := "ytndedplmcjfgeaa", sum := "6d80bc239f136cb36f38dadb5af3cf83dad8d3afd42b5987c2876563dc4c4a06", func := "loop.example/outwork/laws.FnExactRunDepth", spec := "fnExactRunDepth", unfollowed := true, recurses := true, apart := false }
def FnExactRunDepthSaid : Prop := fnExactRunDepthRow.holds Try.pinned (OpenSpec.ofChange fnExactRunDepthSpec)

/-- ITS FALSE NEIGHBOUR: 'it returns false'. Refute it at one input. -/
def fnExactRunDepthWrong : ChangeSpec := { name := "fnExactRunDepth", fn := fun _ => fun
  | [d1, d2] => { results := [.lit (.bool false)], args := [d1, d2] }
  | _ => none }
def FnExactRunDepthWrongFalsely : Prop := fnExactRunDepthRow.holds Try.pinned (OpenSpec.ofChange fnExactRunDepthWrong)

/-- 'laws.FnExactRunNew': WHATEVER THE INPUT: true; the input reads as it did. -/
def fnExactRunNewSpec : ChangeSpec := { name := "fnExactRunNew", fn := fun _ => fun
  | [d1, d2, d3] => { results := [.lit (.bool true)], args := [d1, d2, d3] }
  | _ => none }
def fnExactRunNewRow : OpenClaim := { program := "ytndedplmcjfgeaa", sum := "6d80bc239f136cb36f38dadb5af3cf83dad8d3afd42b5987c2876563dc4c4a06", func := "loop.example/outwork/laws.FnExactRunNew", spec := "fnExactRunNew", unfollowed := true, recurses := true, apart := false }
def FnExactRunNewSaid : Prop := fnExactRunNewRow.holds Try.pinned (OpenSpec.ofChange fnExactRunNewSpec)

/-- ITS FALSE NEIGHBOUR: 'it returns false'. Refute it at one input. -/
def fnExactRunNewWrong : ChangeSpec := { name := "fnExactRunNew", fn := fun _ => fun
  | [d1, d2, d3] => { results := [.lit (.bool false)], args := [d1, d2, d3] }
  | _ => none }
def FnExactRunNewWrongFalsely : Prop := fnExactRunNewRow.holds Try.pinned (OpenSpec.ofChange fnExactRunNewWrong)

/-- 'laws.FnExactGrfCalls': WHATEVER THE INPUT: true; the input reads as it did. -/
def fnExactGrfCallsSpec : ChangeSpec := { name := "fnExactGrfCalls", fn := fun _ => fun
  | [d1, d2] => { results := [.lit (.bool true)], args := [d1, d2] }
  | _ => none }
def fnExactGrfCallsRow : OpenClaim := { program := "ytndedplmcjfgeaa", sum := "6d80bc239f136cb36f38dadb5af3cf83dad8d3afd42b5987c2876563dc4c4a06", func := "loop.example/outwork/laws.FnExactGrfCalls", spec := "fnExactGrfCalls", unfollowed := true, recurses := true, apart := false }
def FnExactGrfCallsSaid : Prop := fnExactGrfCallsRow.holds Try.pinned (OpenSpec.ofChange fnExactGrfCallsSpec)

/-- ITS FALSE NEIGHBOUR: 'it returns false'. Refute it at one input. -/
def fnExactGrfCallsWrong : ChangeSpec := { name := "fnExactGrfCalls", fn := fun _ => fun
  | [d1, d2] => { results := [.lit (.bool false)], args := [d1, d2] }
  | _ => none }
def FnExactGrfCallsWrongFalsely : Prop := fnExactGrfCallsRow.holds Try.pinned (OpenSpec.ofChange fnExactGrfCallsWrong)

/- THE SECOND FORM. 'bulk': how many values and letters a reading holds, each counted each time it is reached (what is shared counts as often as it is met; a slice's spare places count too). A statement '..UptoSaid' is the law's where the arguments, and the package variables that the reading takes, are together of bulk at most 1048576: NARROWER than '..Said'. Prove '..Said' where nothing that the law and all that it calls make is longer than what came in: it says more and counts as full. Else prove '..UptoSaid'. A law counts once. -/
mutual
def uptoBulk {H : Type} : DataW H → Nat
  | .lit (.string bytes) => bytes.length + 1
  | .lit _ => 1
  | .nil => 1
  | .ptr d => uptoBulk d + 1
  | .slice elems spare => uptoBulkAll elems + uptoBulkAll spare + 1
  | .agg parts => uptoBulkAll parts + 1
  | .iface _ d => uptoBulk d + 1
  | .map entries => uptoBulkEntries entries + 1
  | .held _ => 1
def uptoBulkAll {H : Type} : List (DataW H) → Nat
  | [] => 0
  | d :: r => uptoBulk d + uptoBulkAll r
def uptoBulkEntries {H : Type} : List (Lit × DataW H) → Nat
  | [] => 0
  | x :: r => uptoBulkEntry x + uptoBulkEntries r
def uptoBulkEntry {H : Type} : Lit × DataW H → Nat
  | (.string bytes, d) => bytes.length + uptoBulk d + 1
  | (_, d) => uptoBulk d + 1
 end
def uptoSmall : (H : Type) → List (DataW H) → Bool := fun _ ds => decide (uptoBulkAll ds ≤ 1048576)
def OpenSpec.upto (s : _root_.Go.ChangeSpec) : _root_.Go.OpenSpec := { _root_.Go.OpenSpec.ofChange s with cond := some uptoSmall }

/-- 'laws.FnExactPrgSize', WHERE WHAT IT READS IS OF BULK AT MOST 1048576: true; the input reads as it did. -/
def fnExactPrgSizeUptoRow : OpenClaim := { program := "ytndedplmcjfgeaa", sum := "6d80bc239f136cb36f38dadb5af3cf83dad8d3afd42b5987c2876563dc4c4a06", func := "loop.example/outwork/laws.FnExactPrgSize", spec := "fnExactPrgSize", apart := false, narrowed := true }
def FnExactPrgSizeUptoSaid : Prop := fnExactPrgSizeUptoRow.holds Try.pinned (OpenSpec.upto fnExactPrgSizeSpec)

/-- 'laws.FnExactPrgAt', WHERE WHAT IT READS IS OF BULK AT MOST 1048576: true; the input reads as it did. -/
def fnExactPrgAtUptoRow : OpenClaim := { program := "ytndedplmcjfgeaa", sum := "6d80bc239f136cb36f38dadb5af3cf83dad8d3afd42b5987c2876563dc4c4a06", func := "loop.example/outwork/laws.FnExactPrgAt", spec := "fnExactPrgAt", apart := false, narrowed := true }
def FnExactPrgAtUptoSaid : Prop := fnExactPrgAtUptoRow.holds Try.pinned (OpenSpec.upto fnExactPrgAtSpec)

/-- 'laws.FnExactPrgOk', WHERE WHAT IT READS IS OF BULK AT MOST 1048576: true; the input reads as it did. -/
def fnExactPrgOkUptoRow : OpenClaim := { program := "ytndedplmcjfgeaa", sum := "6d80bc239f136cb36f38dadb5af3cf83dad8d3afd42b5987c2876563dc4c4a06", func := "loop.example/outwork/laws.FnExactPrgOk", spec := "fnExactPrgOk", unfollowed := true, recurses := true, apart := false, narrowed := true }
def FnExactPrgOkUptoSaid : Prop := fnExactPrgOkUptoRow.holds Try.pinned (OpenSpec.upto fnExactPrgOkSpec)

/-- 'laws.FnExactRunOk', WHERE WHAT IT READS IS OF BULK AT MOST 1048576: true; the input reads as it did. -/
def fnExactRunOkUptoRow : OpenClaim := { program := "ytndedplmcjfgeaa", sum := "6d80bc239f136cb36f38dadb5af3cf83dad8d3afd42b5987c2876563dc4c4a06", func := "loop.example/outwork/laws.FnExactRunOk", spec := "fnExactRunOk", unfollowed := true, recurses := true, apart := false, narrowed := true }
def FnExactRunOkUptoSaid : Prop := fnExactRunOkUptoRow.holds Try.pinned (OpenSpec.upto fnExactRunOkSpec)

/-- 'laws.FnExactRunDepth', WHERE WHAT IT READS IS OF BULK AT MOST 1048576: true; the input reads as it did. -/
def fnExactRunDepthUptoRow : OpenClaim := { program := "ytndedplmcjfgeaa", sum := "6d80bc239f136cb36f38dadb5af3cf83dad8d3afd42b5987c2876563dc4c4a06", func := "loop.example/outwork/laws.FnExactRunDepth", spec := "fnExactRunDepth", unfollowed := true, recurses := true, apart := false, narrowed := true }
def FnExactRunDepthUptoSaid : Prop := fnExactRunDepthUptoRow.holds Try.pinned (OpenSpec.upto fnExactRunDepthSpec)

/-- 'laws.FnExactRunNew', WHERE WHAT IT READS IS OF BULK AT MOST 1048576: true; the input reads as it did. -/
def fnExactRunNewUptoRow : OpenClaim := { program := "ytndedplmcjfgeaa", sum := "6d80bc239f136cb36f38dadb5af3cf83dad8d3afd42b5987c2876563dc4c4a06", func := "loop.example/outwork/laws.FnExactRunNew", spec := "fnExactRunNew", unfollowed := true, recurses := true, apart := false, narrowed := true }
def FnExactRunNewUptoSaid : Prop := fnExactRunNewUptoRow.holds Try.pinned (OpenSpec.upto fnExactRunNewSpec)

/-- 'laws.FnExactGrfCalls', WHERE WHAT IT READS IS OF BULK AT MOST 1048576: true; the input reads as it did. -/
def fnExactGrfCallsUptoRow : OpenClaim := { program := "ytndedplmcjfgeaa", sum := "6d80bc239f136cb36f38dadb5af3cf83dad8d3afd42b5987c2876563dc4c4a06", func := "loop.example/outwork/laws.FnExactGrfCalls", spec := "fnExactGrfCalls", unfollowed := true, recurses := true, apart := false, narrowed := true }
def FnExactGrfCallsUptoSaid : Prop := fnExactGrfCallsUptoRow.holds Try.pinned (OpenSpec.upto fnExactGrfCallsSpec)

end Rows
end Go.Proofs.Ytndedplmcjfgeaa
