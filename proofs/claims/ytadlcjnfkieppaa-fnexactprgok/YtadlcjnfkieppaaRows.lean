/-
  No cell of these rows narrows 'for every input' (looked for: loops, veiled, ifaces, maps, wideKeys, modest, calm, conditions, laid).
  DERIVED. THE GIVEN ROWS OF THIS SEAT. 6 by the template 'for every input the law returns true; each argument reads behind the call as it read before'; 0 by the template 'total and deterministic' (their statements: YtadlcjnfkieppaaTotals.lean).
  GIVEN WITH THE SEED: the statements are not yours to turn. If you find one false, say at which input.
  Laid BY PROGRAM, IN A SANDBOX (cutbox-rows.mjs): the forced cells as the released guide's own fill.sh prints them over the translation a3cbdad1ebc7de58… (all of the seat's roots in one cut). By AI agents, Wed Nov 11 2026. No macro, syntax, notation, axiom, sorry.
-/
import Derived.Test.YtadlcjnfkieppaaChecked
import GoSem.Claim
import GoSem.ClaimJoined
import GoSem.ClaimMapViews
import Derived.JoinedTies
import Derived.KernelRfl
namespace Go.Proofs.Ytadlcjnfkieppaa
/- THE CELL 'sum', in the pinned program and in every row, IS THE sha256 OF THE DUMP (.gsa) THAT YtadlcjnfkieppaaProg.lean LOADS. Nothing in Lean hashes anything: it is a label: what it is worth is what the hold of that sum in a sandbox is worth. -/
noncomputable def Try.pinned : Pinned := { name := "ytadlcjnfkieppaa", sum := "a3cbdad1ebc7de582c5d0051250dcf99b3d6209b085e0cdf23e3473b4b175844", checked := Try.checked }
namespace Rows
def none {H : Type} : Left H := { results := [], args := [] }

/-- 'laws.FnExactInsOk': WHATEVER THE INPUT: true; the input reads as it did. -/
def fnExactInsOkSpec : ChangeSpec := { name := "fnExactInsOk", fn := fun _ => fun
  | [d1, d2, d3] => { results := [.lit (.bool true)], args := [d1, d2, d3] }
  | _ => none }
def fnExactInsOkRow : OpenClaim := { program := "ytadlcjnfkieppaa", sum := "a3cbdad1ebc7de582c5d0051250dcf99b3d6209b085e0cdf23e3473b4b175844", func := "loop.example/outwork/laws.FnExactInsOk", spec := "fnExactInsOk", unfollowed := true, recurses := true, apart := false }
def FnExactInsOkSaid : Prop := fnExactInsOkRow.holds Try.pinned (OpenSpec.ofChange fnExactInsOkSpec)

/-- ITS FALSE NEIGHBOUR: 'it returns false'. Refute it at one input. -/
def fnExactInsOkWrong : ChangeSpec := { name := "fnExactInsOk", fn := fun _ => fun
  | [d1, d2, d3] => { results := [.lit (.bool false)], args := [d1, d2, d3] }
  | _ => none }
def FnExactInsOkWrongFalsely : Prop := fnExactInsOkRow.holds Try.pinned (OpenSpec.ofChange fnExactInsOkWrong)

/-- 'laws.FnExactInsNext': WHATEVER THE INPUT: true; the input reads as it did. -/
def fnExactInsNextSpec : ChangeSpec := { name := "fnExactInsNext", fn := fun _ => fun
  | [d1, d2] => { results := [.lit (.bool true)], args := [d1, d2] }
  | _ => none }
def fnExactInsNextRow : OpenClaim := { program := "ytadlcjnfkieppaa", sum := "a3cbdad1ebc7de582c5d0051250dcf99b3d6209b085e0cdf23e3473b4b175844", func := "loop.example/outwork/laws.FnExactInsNext", spec := "fnExactInsNext", unfollowed := true, recurses := true, apart := false }
def FnExactInsNextSaid : Prop := fnExactInsNextRow.holds Try.pinned (OpenSpec.ofChange fnExactInsNextSpec)

/-- ITS FALSE NEIGHBOUR: 'it returns false'. Refute it at one input. -/
def fnExactInsNextWrong : ChangeSpec := { name := "fnExactInsNext", fn := fun _ => fun
  | [d1, d2] => { results := [.lit (.bool false)], args := [d1, d2] }
  | _ => none }
def FnExactInsNextWrongFalsely : Prop := fnExactInsNextRow.holds Try.pinned (OpenSpec.ofChange fnExactInsNextWrong)

/-- 'laws.FnExactInsRisks': WHATEVER THE INPUT: true; the input reads as it did. -/
def fnExactInsRisksSpec : ChangeSpec := { name := "fnExactInsRisks", fn := fun _ => fun
  | [d] => { results := [.lit (.bool true)], args := [d] }
  | _ => none }
def fnExactInsRisksRow : OpenClaim := { program := "ytadlcjnfkieppaa", sum := "a3cbdad1ebc7de582c5d0051250dcf99b3d6209b085e0cdf23e3473b4b175844", func := "loop.example/outwork/laws.FnExactInsRisks", spec := "fnExactInsRisks", apart := false }
def FnExactInsRisksSaid : Prop := fnExactInsRisksRow.holds Try.pinned (OpenSpec.ofChange fnExactInsRisksSpec)

/-- ITS FALSE NEIGHBOUR: 'it returns false'. Refute it at one input. -/
def fnExactInsRisksWrong : ChangeSpec := { name := "fnExactInsRisks", fn := fun _ => fun
  | [d] => { results := [.lit (.bool false)], args := [d] }
  | _ => none }
def FnExactInsRisksWrongFalsely : Prop := fnExactInsRisksRow.holds Try.pinned (OpenSpec.ofChange fnExactInsRisksWrong)

/-- 'laws.FnExactPrgOk': WHATEVER THE INPUT: true; the input reads as it did. -/
def fnExactPrgOkSpec : ChangeSpec := { name := "fnExactPrgOk", fn := fun _ => fun
  | [d] => { results := [.lit (.bool true)], args := [d] }
  | _ => none }
def fnExactPrgOkRow : OpenClaim := { program := "ytadlcjnfkieppaa", sum := "a3cbdad1ebc7de582c5d0051250dcf99b3d6209b085e0cdf23e3473b4b175844", func := "loop.example/outwork/laws.FnExactPrgOk", spec := "fnExactPrgOk", unfollowed := true, recurses := true, apart := false }
def FnExactPrgOkSaid : Prop := fnExactPrgOkRow.holds Try.pinned (OpenSpec.ofChange fnExactPrgOkSpec)

/-- ITS FALSE NEIGHBOUR: 'it returns false'. Refute it at one input. -/
def fnExactPrgOkWrong : ChangeSpec := { name := "fnExactPrgOk", fn := fun _ => fun
  | [d] => { results := [.lit (.bool false)], args := [d] }
  | _ => none }
def FnExactPrgOkWrongFalsely : Prop := fnExactPrgOkRow.holds Try.pinned (OpenSpec.ofChange fnExactPrgOkWrong)

/-- 'laws.FnExactPrgAt': WHATEVER THE INPUT: true; the input reads as it did. -/
def fnExactPrgAtSpec : ChangeSpec := { name := "fnExactPrgAt", fn := fun _ => fun
  | [d1, d2, d3] => { results := [.lit (.bool true)], args := [d1, d2, d3] }
  | _ => none }
def fnExactPrgAtRow : OpenClaim := { program := "ytadlcjnfkieppaa", sum := "a3cbdad1ebc7de582c5d0051250dcf99b3d6209b085e0cdf23e3473b4b175844", func := "loop.example/outwork/laws.FnExactPrgAt", spec := "fnExactPrgAt", apart := false }
def FnExactPrgAtSaid : Prop := fnExactPrgAtRow.holds Try.pinned (OpenSpec.ofChange fnExactPrgAtSpec)

/-- ITS FALSE NEIGHBOUR: 'it returns false'. Refute it at one input. -/
def fnExactPrgAtWrong : ChangeSpec := { name := "fnExactPrgAt", fn := fun _ => fun
  | [d1, d2, d3] => { results := [.lit (.bool false)], args := [d1, d2, d3] }
  | _ => none }
def FnExactPrgAtWrongFalsely : Prop := fnExactPrgAtRow.holds Try.pinned (OpenSpec.ofChange fnExactPrgAtWrong)

/-- 'laws.FnExactPrgSize': WHATEVER THE INPUT: true; the input reads as it did. -/
def fnExactPrgSizeSpec : ChangeSpec := { name := "fnExactPrgSize", fn := fun _ => fun
  | [d] => { results := [.lit (.bool true)], args := [d] }
  | _ => none }
def fnExactPrgSizeRow : OpenClaim := { program := "ytadlcjnfkieppaa", sum := "a3cbdad1ebc7de582c5d0051250dcf99b3d6209b085e0cdf23e3473b4b175844", func := "loop.example/outwork/laws.FnExactPrgSize", spec := "fnExactPrgSize", apart := false }
def FnExactPrgSizeSaid : Prop := fnExactPrgSizeRow.holds Try.pinned (OpenSpec.ofChange fnExactPrgSizeSpec)

/-- ITS FALSE NEIGHBOUR: 'it returns false'. Refute it at one input. -/
def fnExactPrgSizeWrong : ChangeSpec := { name := "fnExactPrgSize", fn := fun _ => fun
  | [d] => { results := [.lit (.bool false)], args := [d] }
  | _ => none }
def FnExactPrgSizeWrongFalsely : Prop := fnExactPrgSizeRow.holds Try.pinned (OpenSpec.ofChange fnExactPrgSizeWrong)

/- THE SECOND FORM. 'bulk': how many values and letters a reading holds, each counted each time it is reached (what is shared counts as often as it is met; a slice's spare places count too). A statement '..UptoSaid' is the law's where the arguments, and the package variables that the reading takes, are together of bulk at most 1048576: NARROWER than '..Said'. Prove '..Said' where nothing that the law and all that it calls make is longer than what came in: it says more and counts as full. Else prove '..UptoSaid'. A law counts once. -/
mutual
def uptoBulk {H : Type} : DataW H → Nat
  | .lit (.string bytes) => bytes.length + 1
  | .lit _ => 1
  | .nil => 1
  | .ptr d => uptoBulk d + 1
  | .slice elems spare => uptoBulkAll elems + uptoBulkAll spare + 1
  | .agg parts => uptoBulkAll parts + 1
  | .iface _ d => uptoBulk d + 1
  | .map entries => uptoBulkEntries entries + 1
  | .held _ => 1
def uptoBulkAll {H : Type} : List (DataW H) → Nat
  | [] => 0
  | d :: r => uptoBulk d + uptoBulkAll r
def uptoBulkEntries {H : Type} : List (Lit × DataW H) → Nat
  | [] => 0
  | x :: r => uptoBulkEntry x + uptoBulkEntries r
def uptoBulkEntry {H : Type} : Lit × DataW H → Nat
  | (.string bytes, d) => bytes.length + uptoBulk d + 1
  | (_, d) => uptoBulk d + 1
 end
def uptoSmall : (H : Type) → List (DataW H) → Bool := fun _ ds => decide (uptoBulkAll ds ≤ 1048576)
def OpenSpec.upto (s : _root_.Go.ChangeSpec) : _root_.Go.OpenSpec := { _root_.Go.OpenSpec.ofChange s with cond := some uptoSmall }

/-- 'laws.FnExactInsOk', WHERE WHAT IT READS IS OF BULK AT MOST 1048576: true; the input reads as it did. -/
def fnExactInsOkUptoRow : OpenClaim := { program := "ytadlcjnfkieppaa", sum := "a3cbdad1ebc7de582c5d0051250dcf99b3d6209b085e0cdf23e3473b4b175844", func := "loop.example/outwork/laws.FnExactInsOk", spec := "fnExactInsOk", unfollowed := true, recurses := true, apart := false, narrowed := true }
def FnExactInsOkUptoSaid : Prop := fnExactInsOkUptoRow.holds Try.pinned (OpenSpec.upto fnExactInsOkSpec)

/-- 'laws.FnExactInsNext', WHERE WHAT IT READS IS OF BULK AT MOST 1048576: true; the input reads as it did. -/
def fnExactInsNextUptoRow : OpenClaim := { program := "ytadlcjnfkieppaa", sum := "a3cbdad1ebc7de582c5d0051250dcf99b3d6209b085e0cdf23e3473b4b175844", func := "loop.example/outwork/laws.FnExactInsNext", spec := "fnExactInsNext", unfollowed := true, recurses := true, apart := false, narrowed := true }
def FnExactInsNextUptoSaid : Prop := fnExactInsNextUptoRow.holds Try.pinned (OpenSpec.upto fnExactInsNextSpec)

/-- 'laws.FnExactInsRisks', WHERE WHAT IT READS IS OF BULK AT MOST 1048576: true; the input reads as it did. -/
def fnExactInsRisksUptoRow : OpenClaim := { program := "ytadlcjnfkieppaa", sum := "a3cbdad1ebc7de582c5d0051250dcf99b3d6209b085e0cdf23e3473b4b175844", func := "loop.example/outwork/laws.FnExactInsRisks", spec := "fnExactInsRisks", apart := false, narrowed := true }
def FnExactInsRisksUptoSaid : Prop := fnExactInsRisksUptoRow.holds Try.pinned (OpenSpec.upto fnExactInsRisksSpec)

/-- 'laws.FnExactPrgOk', WHERE WHAT IT READS IS OF BULK AT MOST 1048576: true; the input reads as it did. -/
def fnExactPrgOkUptoRow : OpenClaim := { program := "ytadlcjnfkieppaa", sum := "a3cbdad1ebc7de582c5d0051250dcf99b3d6209b085e0cdf23e3473b4b175844", func := "loop.example/outwork/laws.FnExactPrgOk", spec := "fnExactPrgOk", unfollowed := true, recurses := true, apart := false, narrowed := true }
def FnExactPrgOkUptoSaid : Prop := fnExactPrgOkUptoRow.holds Try.pinned (OpenSpec.upto fnExactPrgOkSpec)

/-- 'laws.FnExactPrgAt', WHERE WHAT IT READS IS OF BULK AT MOST 1048576: true; the input reads as it did. -/
def fnExactPrgAtUptoRow : OpenClaim := { program := "ytadlcjnfkieppaa", sum := "a3cbdad1ebc7de582c5d0051250dcf99b3d6209b085e0cdf23e3473b4b175844", func := "loop.example/outwork/laws.FnExactPrgAt", spec := "fnExactPrgAt", apart := false, narrowed := true }
def FnExactPrgAtUptoSaid : Prop := fnExactPrgAtUptoRow.holds Try.pinned (OpenSpec.upto fnExactPrgAtSpec)

/-- 'laws.FnExactPrgSize', WHERE WHAT IT READS IS OF BULK AT MOST 1048576: true; the input reads as it did. -/
def fnExactPrgSizeUptoRow : OpenClaim := { program := "ytadlcjnfkieppaa", sum := "a3cbdad1ebc7de582c5d0051250dcf99b3d6209b085e0cdf23e3473b4b175844", func := "loop.example/outwork/laws.FnExactPrgSize", spec := "fnExactPrgSize", apart := false, narrowed := true }
def FnExactPrgSizeUptoSaid : Prop := fnExactPrgSizeUptoRow.holds Try.pinned (OpenSpec.upto fnExactPrgSizeSpec)

end Rows
end Go.Proofs.Ytadlcjnfkieppaa
