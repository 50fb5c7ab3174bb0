/- Steps: what the laws do with them (copies, compares) and the model's InsOk, l3Form, l1In. Each answers what the plain functions say; it makes memory of its own alone. -/
import Derived.Test.YtiehokibfdaleaaNums
import Derived.Test.YtiehokibfdaleaaPlainIns
import Derived.Test.YtiehokibfdaleaaHeld
import Derived.WalkKit
import Derived.ProofKit
import Derived.OpenShut
import Derived.Below
namespace Go.Proofs.Ytiehokibfdaleaa
open Go.ChangeShapes Go.WideShapes Go.ChangeAt Go.RowKit

theorem inS (n x y : Int) (w : World) :
    Calls Try.prog 53 #[.int .i64 n, .int .i64 x, .int .i64 y] w fun e w' => e = .returned (.bool (inB n x y)) ∧ w' = w := by
  by_cases h1 : x ≤ n
  · go_enter Try.func53, Try.ntmps53
    go_wp2
    all_goals go_ret
    all_goals exact ⟨ret_bool (by simp [inB, h1]), rfl⟩
  · go_enter Try.func53, Try.ntmps53
    go_wp2
    all_goals go_ret
    all_goals exact ⟨ret_bool (by simp [inB]; omega), rfl⟩

end Go.Proofs.Ytiehokibfdaleaa
