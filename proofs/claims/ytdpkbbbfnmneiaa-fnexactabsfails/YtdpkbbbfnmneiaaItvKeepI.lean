/- What of both may stand so, two of four: the program's (I). -/
import Derived.Test.YtdpkbbbfnmneiaaItvRelI
import Derived.WalkKit
import Derived.ProofKit
import Derived.OpenShut
import Derived.Below
import Derived.BigRegion
namespace Go.Proofs.Ytdpkbbbfnmneiaa
open Go.ChangeShapes Go.WideShapes Go.ChangeAt Go.RowKit

set_option maxHeartbeats 4000000 in
theorem keepI_1 (a b c d : Int) (w : World) (a1 : -32768 ≤ a) (a2 : a ≤ 32767) (a7 : -32768 ≤ d) (a8 : d ≤ 32767) :
    Calls Try.prog 168 #[.agg #[], .agg #[.int .i64 a, .int .i64 b], .agg #[.int .i64 c, .int .i64 d]] w fun e w' => e = .returned (.tuple #[.agg #[.int .i64 (a), .int .i64 (min b (d - 1))], .agg #[.int .i64 (max c (a + 1)), .int .i64 (d)]]) ∧ Below w.heap.size w w' := by
  go_enter Try.func168, Try.ntmps168
  go_wp2_with fail
  go_region
  all_goals (go_wp2_with fail)
  all_goals refine bodyPost_ret (v := .tuple #[.agg #[.int .i64 (a), .int .i64 (min b (d - 1))], .agg #[.int .i64 (max c (a + 1)), .int .i64 (d)]]) (by simp [results, Try.results168, go_sem]; try omega) rfl ⟨rfl, ?_⟩
  all_goals repeat (first | exact Below.refl _ _ | refine Below.drew ?_ | refine Below.alloc ?_ (by simp; try omega) _ | refine Below.setCell ?_ (by simp; try omega) _)

set_option maxHeartbeats 4000000 in
theorem keepI_2 (a b c d : Int) (w : World)  :
    Calls Try.prog 170 #[.agg #[], .agg #[.int .i64 a, .int .i64 b], .agg #[.int .i64 c, .int .i64 d]] w fun e w' => e = .returned (.tuple #[.agg #[.int .i64 (a), .int .i64 (min b d)], .agg #[.int .i64 (max c a), .int .i64 (d)]]) ∧ Below w.heap.size w w' := by
  go_enter Try.func170, Try.ntmps170
  go_wp2_with fail
  go_region
  all_goals (go_wp2_with fail)
  all_goals refine bodyPost_ret (v := .tuple #[.agg #[.int .i64 (a), .int .i64 (min b d)], .agg #[.int .i64 (max c a), .int .i64 (d)]]) (by simp [results, Try.results170, go_sem]; try omega) rfl ⟨rfl, ?_⟩
  all_goals repeat (first | exact Below.refl _ _ | refine Below.drew ?_ | refine Below.alloc ?_ (by simp; try omega) _ | refine Below.setCell ?_ (by simp; try omega) _)

end Go.Proofs.Ytdpkbbbfnmneiaa
