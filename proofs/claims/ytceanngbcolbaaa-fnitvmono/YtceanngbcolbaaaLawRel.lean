/- The answers of ItvRel and ItvNot, by names; what the law of FnItvRel lastly asks. -/
import Derived.Test.YtceanngbcolbaaaLawL
import Derived.Test.YtceanngbcolbaaaDrawRel
import Derived.Test.YtceanngbcolbaaaRelIn
import Derived.Test.YtceanngbcolbaaaItvRelB
import Derived.Test.YtceanngbcolbaaaItvRelJ
namespace Go.Proofs.Ytceanngbcolbaaa
open Go.ChangeShapes Go.WideShapes Go.ChangeAt Go.RowKit

theorem itvRelI_is (rel a b c d p q r s : Int) (t : Bool) (w : World) (h : itvRel rel a b c d = ⟨p, q, r, s, t⟩) :
    Calls Try.prog 18 #[.int .i64 rel, .agg #[.int .i64 a, .int .i64 b], .agg #[.int .i64 c, .int .i64 d]] w fun e w' => e = .returned (.tuple #[.agg #[.int .i64 p, .int .i64 q], .agg #[.int .i64 r, .int .i64 s], .bool t]) ∧ Below w.heap.size w w' := by
  have := itvRelI rel a b c d w
  rw [h] at this
  exact this
theorem itvRelS_is (rel a b c d p q r s : Int) (t : Bool) (w : World) (h : itvRel rel a b c d = ⟨p, q, r, s, t⟩) :
    Calls Try.prog 21 #[.int .i64 rel, .agg #[.int .i64 a, .int .i64 b], .agg #[.int .i64 c, .int .i64 d]] w fun e w' => e = .returned (.tuple #[.agg #[.int .i64 p, .int .i64 q], .agg #[.int .i64 r, .int .i64 s], .bool t]) ∧ Below w.heap.size w w' := by
  have := itvRelS rel a b c d w
  rw [h] at this
  exact this
theorem owStandsI_is (rel n a b : Int) (t : Bool) (w : World) (h : (relB rel n a || relB rel n b) = t) :
    Calls Try.prog 23 #[.int .i64 rel, .int .i64 n, .agg #[.int .i64 a, .int .i64 b]] w fun e w' => e = .returned (.bool t) ∧ Below w.heap.size w w' := by
  subst h; exact owStandsI rel n a b w
theorem owStoodI_is (rel n a b : Int) (t : Bool) (w : World) (h : (relB rel a n || relB rel b n) = t) :
    Calls Try.prog 24 #[.int .i64 rel, .agg #[.int .i64 a, .int .i64 b], .int .i64 n] w fun e w' => e = .returned (.bool t) ∧ Below w.heap.size w w' := by
  subst h; exact owStoodI rel n a b w
theorem two_is (r : Two) : r = ⟨r.l0, r.h0, r.l1, r.h1, r.ok⟩ := by cases r; rfl
end Go.Proofs.Ytceanngbcolbaaa
