/- The answers of ItvNot, by names. -/
import Derived.Test.YtceanngbcolbaaaLawRel
import Derived.Test.YtceanngbcolbaaaItvNot
import Derived.Test.YtceanngbcolbaaaItvNotI
namespace Go.Proofs.Ytceanngbcolbaaa
open Go.ChangeShapes Go.WideShapes Go.ChangeAt Go.RowKit

theorem itvNotI_is (rel a b c d p q r s : Int) (t : Bool) (w : World) (h : itvNot rel a b c d = ⟨p, q, r, s, t⟩) :
    Calls Try.prog 19 #[.int .i64 rel, .agg #[.int .i64 a, .int .i64 b], .agg #[.int .i64 c, .int .i64 d]] w fun e w' => e = .returned (.tuple #[.agg #[.int .i64 p, .int .i64 q], .agg #[.int .i64 r, .int .i64 s], .bool t]) ∧ Below w.heap.size w w' := by
  have := itvNotI rel a b c d w
  rw [h] at this
  exact this
theorem itvNotS_is (rel a b c d p q r s : Int) (t : Bool) (w : World) (h : itvNot rel a b c d = ⟨p, q, r, s, t⟩) :
    Calls Try.prog 26 #[.int .i64 rel, .agg #[.int .i64 a, .int .i64 b], .agg #[.int .i64 c, .int .i64 d]] w fun e w' => e = .returned (.tuple #[.agg #[.int .i64 p, .int .i64 q], .agg #[.int .i64 r, .int .i64 s], .bool t]) ∧ Below w.heap.size w w' := by
  have := itvNotS rel a b c d w
  rw [h] at this
  exact this
end Go.Proofs.Ytceanngbcolbaaa
