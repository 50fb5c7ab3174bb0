/- The least bounds of four numbers: the model's (S). -/
import Derived.Test.YtceanngbcolbaaaItvFold
import Derived.WalkKit
import Derived.ProofKit
import Derived.OpenShut
import Derived.Below
import Derived.Deep.RegionHeld3
import Derived.Deep.DeepCutAuto
namespace Go.Proofs.Ytceanngbcolbaaa
open Go.ChangeShapes Go.WideShapes Go.ChangeAt Go.RowKit

set_option maxHeartbeats 4000000 in
theorem spanS (a b c d : Int) (w : World) :
    Calls Try.prog 39 #[.int .i64 a, .int .i64 b, .int .i64 c, .int .i64 d] w fun e w' => e = .returned (.agg #[.int .i64 (spanLo a b c d), .int .i64 (spanHi a b c d)]) ∧ Below w.heap.size w w' := by
  go_enter Try.func39, Try.ntmps39
  go_wp2
  all_goals (refine bodyPost_ret (v := .agg #[.int .i64 (spanLo a b c d), .int .i64 (spanHi a b c d)]) (by simp [results, Try.results39, go_sem, spanLo, spanHi]; omega) rfl ⟨rfl, ?_⟩)
  all_goals repeat (first | exact Below.refl _ _ | refine Below.drew ?_ | refine Below.alloc ?_ (by simp; try omega) _ | refine Below.setCell ?_ (by simp; try omega) _)
theorem i64_of {n : Int} (h1 : -9223372036854775808 ≤ n) (h2 : n ≤ 9223372036854775807) : IntKind.i64.wrap n = n := by
  unfold IntKind.wrap
  simp [IntKind.bits, IntKind.signed]
  omega
theorem i64_div {a : Int} (h : okB a = true) (b : Int) : IntKind.i64.wrap (a.tdiv b) = a.tdiv b := by
  have h1 := ok_lo h
  have h2 := ok_hi h
  have := tdiv_small a b h1 (by omega)
  exact i64_of (by omega) (by omega)

end Go.Proofs.Ytceanngbcolbaaa
