/-
  No cell of these rows narrows 'for every input' (looked for: loops, veiled, ifaces, maps, wideKeys, modest, calm, conditions, laid).
  DERIVED. THE GIVEN ROWS OF THIS SEAT. 5 by the template 'for every input the law returns true; each argument reads behind the call as it read before'; 0 by the template 'total and deterministic' (their statements: YtgcokddhghcmbaaTotals.lean).
  GIVEN WITH THE SEED: the statements are not yours to turn. If you find one false, say at which input.
  Laid BY PROGRAM, IN A SANDBOX (cutbox-rows.mjs): the forced cells as the released guide's own fill.sh prints them over the translation e262c8ca4d424cbb… (all of the seat's roots in one cut). By AI agents, Wed Nov 11 2026. No macro, syntax, notation, axiom, sorry.
-/
import Derived.Test.YtgcokddhghcmbaaChecked
import GoSem.Claim
import GoSem.ClaimJoined
import GoSem.ClaimMapViews
import Derived.JoinedTies
import Derived.KernelRfl
namespace Go.Proofs.Ytgcokddhghcmbaa
/- THE CELL 'sum', in the pinned program and in every row, IS THE sha256 OF THE DUMP (.gsa) THAT YtgcokddhghcmbaaProg.lean LOADS. Nothing in Lean hashes anything: it is a label: what it is worth is what the hold of that sum in a sandbox is worth. -/
noncomputable def Try.pinned : Pinned := { name := "ytgcokddhghcmbaa", sum := "e262c8ca4d424cbb18c6a20984ebde6a3c16c85130e1fc151de7007e85265692", checked := Try.checked }
namespace Rows
def none {H : Type} : Left H := { results := [], args := [] }

/-- 'laws.FnRelHolds': WHATEVER THE INPUT: true; the input reads as it did. -/
def fnRelHoldsSpec : ChangeSpec := { name := "fnRelHolds", fn := fun _ => fun
  | [d] => { results := [.lit (.bool true)], args := [d] }
  | _ => none }
def fnRelHoldsRow : OpenClaim := { program := "ytgcokddhghcmbaa", sum := "e262c8ca4d424cbb18c6a20984ebde6a3c16c85130e1fc151de7007e85265692", func := "loop.example/outwork/laws.FnRelHolds", spec := "fnRelHolds", apart := false }
def FnRelHoldsSaid : Prop := fnRelHoldsRow.holds Try.pinned (OpenSpec.ofChange fnRelHoldsSpec)

/-- ITS FALSE NEIGHBOUR: 'it returns false'. Refute it at one input. -/
def fnRelHoldsWrong : ChangeSpec := { name := "fnRelHolds", fn := fun _ => fun
  | [d] => { results := [.lit (.bool false)], args := [d] }
  | _ => none }
def FnRelHoldsWrongFalsely : Prop := fnRelHoldsRow.holds Try.pinned (OpenSpec.ofChange fnRelHoldsWrong)

/-- 'laws.FnExactNumOk': WHATEVER THE INPUT: true; the input reads as it did. -/
def fnExactNumOkSpec : ChangeSpec := { name := "fnExactNumOk", fn := fun _ => fun
  | [d] => { results := [.lit (.bool true)], args := [d] }
  | _ => none }
def fnExactNumOkRow : OpenClaim := { program := "ytgcokddhghcmbaa", sum := "e262c8ca4d424cbb18c6a20984ebde6a3c16c85130e1fc151de7007e85265692", func := "loop.example/outwork/laws.FnExactNumOk", spec := "fnExactNumOk", apart := false }
def FnExactNumOkSaid : Prop := fnExactNumOkRow.holds Try.pinned (OpenSpec.ofChange fnExactNumOkSpec)

/-- ITS FALSE NEIGHBOUR: 'it returns false'. Refute it at one input. -/
def fnExactNumOkWrong : ChangeSpec := { name := "fnExactNumOk", fn := fun _ => fun
  | [d] => { results := [.lit (.bool false)], args := [d] }
  | _ => none }
def FnExactNumOkWrongFalsely : Prop := fnExactNumOkRow.holds Try.pinned (OpenSpec.ofChange fnExactNumOkWrong)

/-- 'laws.FnExactNumWrap': WHATEVER THE INPUT: true; the input reads as it did. -/
def fnExactNumWrapSpec : ChangeSpec := { name := "fnExactNumWrap", fn := fun _ => fun
  | [d] => { results := [.lit (.bool true)], args := [d] }
  | _ => none }
def fnExactNumWrapRow : OpenClaim := { program := "ytgcokddhghcmbaa", sum := "e262c8ca4d424cbb18c6a20984ebde6a3c16c85130e1fc151de7007e85265692", func := "loop.example/outwork/laws.FnExactNumWrap", spec := "fnExactNumWrap", apart := false }
def FnExactNumWrapSaid : Prop := fnExactNumWrapRow.holds Try.pinned (OpenSpec.ofChange fnExactNumWrapSpec)

/-- ITS FALSE NEIGHBOUR: 'it returns false'. Refute it at one input. -/
def fnExactNumWrapWrong : ChangeSpec := { name := "fnExactNumWrap", fn := fun _ => fun
  | [d] => { results := [.lit (.bool false)], args := [d] }
  | _ => none }
def FnExactNumWrapWrongFalsely : Prop := fnExactNumWrapRow.holds Try.pinned (OpenSpec.ofChange fnExactNumWrapWrong)

/-- 'laws.FnExactNumDo': WHATEVER THE INPUT: true; the input reads as it did. -/
def fnExactNumDoSpec : ChangeSpec := { name := "fnExactNumDo", fn := fun _ => fun
  | [d1, d2, d3] => { results := [.lit (.bool true)], args := [d1, d2, d3] }
  | _ => none }
def fnExactNumDoRow : OpenClaim := { program := "ytgcokddhghcmbaa", sum := "e262c8ca4d424cbb18c6a20984ebde6a3c16c85130e1fc151de7007e85265692", func := "loop.example/outwork/laws.FnExactNumDo", spec := "fnExactNumDo", unfollowed := true, recurses := true, apart := false }
def FnExactNumDoSaid : Prop := fnExactNumDoRow.holds Try.pinned (OpenSpec.ofChange fnExactNumDoSpec)

/-- ITS FALSE NEIGHBOUR: 'it returns false'. Refute it at one input. -/
def fnExactNumDoWrong : ChangeSpec := { name := "fnExactNumDo", fn := fun _ => fun
  | [d1, d2, d3] => { results := [.lit (.bool false)], args := [d1, d2, d3] }
  | _ => none }
def FnExactNumDoWrongFalsely : Prop := fnExactNumDoRow.holds Try.pinned (OpenSpec.ofChange fnExactNumDoWrong)

/-- 'laws.FnExactRelHolds': WHATEVER THE INPUT: true; the input reads as it did. -/
def fnExactRelHoldsSpec : ChangeSpec := { name := "fnExactRelHolds", fn := fun _ => fun
  | [d1, d2, d3] => { results := [.lit (.bool true)], args := [d1, d2, d3] }
  | _ => none }
def fnExactRelHoldsRow : OpenClaim := { program := "ytgcokddhghcmbaa", sum := "e262c8ca4d424cbb18c6a20984ebde6a3c16c85130e1fc151de7007e85265692", func := "loop.example/outwork/laws.FnExactRelHolds", spec := "fnExactRelHolds", apart := false }
def FnExactRelHoldsSaid : Prop := fnExactRelHoldsRow.holds Try.pinned (OpenSpec.ofChange fnExactRelHoldsSpec)

/-- ITS FALSE NEIGHBOUR: 'it returns false'. Refute it at one input. -/
def fnExactRelHoldsWrong : ChangeSpec := { name := "fnExactRelHolds", fn := fun _ => fun
  | [d1, d2, d3] => { results := [.lit (.bool false)], args := [d1, d2, d3] }
  | _ => none }
def FnExactRelHoldsWrongFalsely : Prop := fnExactRelHoldsRow.holds Try.pinned (OpenSpec.ofChange fnExactRelHoldsWrong)

/- THE SECOND FORM. 'bulk': how many values and letters a reading holds, each counted each time it is reached (what is shared counts as often as it is met; a slice's spare places count too). A statement '..UptoSaid' is the law's where the arguments, and the package variables that the reading takes, are together of bulk at most 1048576: NARROWER than '..Said'. Prove '..Said' where nothing that the law and all that it calls make is longer than what came in: it says more and counts as full. Else prove '..UptoSaid'. A law counts once. -/
mutual
def uptoBulk {H : Type} : DataW H → Nat
  | .lit (.string bytes) => bytes.length + 1
  | .lit _ => 1
  | .nil => 1
  | .ptr d => uptoBulk d + 1
  | .slice elems spare => uptoBulkAll elems + uptoBulkAll spare + 1
  | .agg parts => uptoBulkAll parts + 1
  | .iface _ d => uptoBulk d + 1
  | .map entries => uptoBulkEntries entries + 1
  | .held _ => 1
def uptoBulkAll {H : Type} : List (DataW H) → Nat
  | [] => 0
  | d :: r => uptoBulk d + uptoBulkAll r
def uptoBulkEntries {H : Type} : List (Lit × DataW H) → Nat
  | [] => 0
  | x :: r => uptoBulkEntry x + uptoBulkEntries r
def uptoBulkEntry {H : Type} : Lit × DataW H → Nat
  | (.string bytes, d) => bytes.length + uptoBulk d + 1
  | (_, d) => uptoBulk d + 1
 end
def uptoSmall : (H : Type) → List (DataW H) → Bool := fun _ ds => decide (uptoBulkAll ds ≤ 1048576)
def OpenSpec.upto (s : _root_.Go.ChangeSpec) : _root_.Go.OpenSpec := { _root_.Go.OpenSpec.ofChange s with cond := some uptoSmall }

/-- 'laws.FnRelHolds', WHERE WHAT IT READS IS OF BULK AT MOST 1048576: true; the input reads as it did. -/
def fnRelHoldsUptoRow : OpenClaim := { program := "ytgcokddhghcmbaa", sum := "e262c8ca4d424cbb18c6a20984ebde6a3c16c85130e1fc151de7007e85265692", func := "loop.example/outwork/laws.FnRelHolds", spec := "fnRelHolds", apart := false, narrowed := true }
def FnRelHoldsUptoSaid : Prop := fnRelHoldsUptoRow.holds Try.pinned (OpenSpec.upto fnRelHoldsSpec)

/-- 'laws.FnExactNumOk', WHERE WHAT IT READS IS OF BULK AT MOST 1048576: true; the input reads as it did. -/
def fnExactNumOkUptoRow : OpenClaim := { program := "ytgcokddhghcmbaa", sum := "e262c8ca4d424cbb18c6a20984ebde6a3c16c85130e1fc151de7007e85265692", func := "loop.example/outwork/laws.FnExactNumOk", spec := "fnExactNumOk", apart := false, narrowed := true }
def FnExactNumOkUptoSaid : Prop := fnExactNumOkUptoRow.holds Try.pinned (OpenSpec.upto fnExactNumOkSpec)

/-- 'laws.FnExactNumWrap', WHERE WHAT IT READS IS OF BULK AT MOST 1048576: true; the input reads as it did. -/
def fnExactNumWrapUptoRow : OpenClaim := { program := "ytgcokddhghcmbaa", sum := "e262c8ca4d424cbb18c6a20984ebde6a3c16c85130e1fc151de7007e85265692", func := "loop.example/outwork/laws.FnExactNumWrap", spec := "fnExactNumWrap", apart := false, narrowed := true }
def FnExactNumWrapUptoSaid : Prop := fnExactNumWrapUptoRow.holds Try.pinned (OpenSpec.upto fnExactNumWrapSpec)

/-- 'laws.FnExactNumDo', WHERE WHAT IT READS IS OF BULK AT MOST 1048576: true; the input reads as it did. -/
def fnExactNumDoUptoRow : OpenClaim := { program := "ytgcokddhghcmbaa", sum := "e262c8ca4d424cbb18c6a20984ebde6a3c16c85130e1fc151de7007e85265692", func := "loop.example/outwork/laws.FnExactNumDo", spec := "fnExactNumDo", unfollowed := true, recurses := true, apart := false, narrowed := true }
def FnExactNumDoUptoSaid : Prop := fnExactNumDoUptoRow.holds Try.pinned (OpenSpec.upto fnExactNumDoSpec)

/-- 'laws.FnExactRelHolds', WHERE WHAT IT READS IS OF BULK AT MOST 1048576: true; the input reads as it did. -/
def fnExactRelHoldsUptoRow : OpenClaim := { program := "ytgcokddhghcmbaa", sum := "e262c8ca4d424cbb18c6a20984ebde6a3c16c85130e1fc151de7007e85265692", func := "loop.example/outwork/laws.FnExactRelHolds", spec := "fnExactRelHolds", apart := false, narrowed := true }
def FnExactRelHoldsUptoSaid : Prop := fnExactRelHoldsUptoRow.holds Try.pinned (OpenSpec.upto fnExactRelHoldsSpec)

end Rows
end Go.Proofs.Ytgcokddhghcmbaa
