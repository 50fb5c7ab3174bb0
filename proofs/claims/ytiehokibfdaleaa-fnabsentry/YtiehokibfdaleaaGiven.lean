/- What a procedure may be given, the program's. -/
import Derived.Test.YtiehokibfdaleaaItv
namespace Go.Proofs.Ytiehokibfdaleaa
open Go.ChangeShapes Go.WideShapes Go.ChangeAt Go.RowKit
theorem givenI (lo hi : Int) (a : Option Addr) (n cap : Nat) (w : World) :
    Calls Try.prog 45 #[.agg #[.int .i64 lo, .int .i64 hi, .slice a n cap]] w fun e w' => e = .returned (.agg #[.int .i64 lo, .int .i64 hi]) ∧ Below w.heap.size w w' := by
  go_enter Try.func45, Try.ntmps45
  go_wp2
  refine bodyPost_ret (v := .agg #[.int .i64 lo, .int .i64 hi]) (by simp [results, Try.results45, go_sem]) rfl ⟨rfl, ?_⟩
  repeat (first | exact Below.refl _ _ | refine Below.drew ?_ | refine Below.alloc ?_ (by simp; try omega) _ | refine Below.setCell ?_ (by simp; try omega) _)

end Go.Proofs.Ytiehokibfdaleaa
