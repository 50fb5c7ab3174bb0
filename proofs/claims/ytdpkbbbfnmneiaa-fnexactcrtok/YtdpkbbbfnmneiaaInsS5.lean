/- The model's InsOk answers what the plain insOk says, whatever it is asked; it makes memory of its own alone. -/
import Derived.Test.YtdpkbbbfnmneiaaInsS2
import Derived.Test.YtdpkbbbfnmneiaaInsS3
import Derived.Test.YtdpkbbbfnmneiaaInsS4
namespace Go.Proofs.Ytdpkbbbfnmneiaa
open Go.ChangeShapes Go.WideShapes Go.ChangeAt Go.RowKit
theorem insOkS (o d a b r l h t p s : Int) (w : World) :
    Calls Try.prog 100 #[.agg #[.int .i64 o, .int .i64 d, .int .i64 a, .int .i64 b, .int .i64 r, .int .i64 l, .int .i64 h, .int .i64 t], .int .i64 p, .int .i64 s] w fun e w' => e = .returned (.bool (insOk o d a b r l h t p s)) ∧ Below w.heap.size w w' := by
  cases g0 : inB o 1 12
  · exact insOkS_a _ _ _ _ _ _ _ _ _ _ _ g0
  cases hQ : formB o d a b r l h t
  · exact insOkS_b _ _ _ _ _ _ _ _ _ _ _ g0 hQ
  cases g1 : inB d 0 3
  · exact insOkS_c _ _ _ _ _ _ _ _ _ _ _ g0 hQ g1
  cases g2 : inB a 0 3
  · exact insOkS_d _ _ _ _ _ _ _ _ _ _ _ g0 hQ g1 g2
  cases g3 : inB b 0 3
  · exact insOkS_e _ _ _ _ _ _ _ _ _ _ _ g0 hQ g1 g2 g3
  · exact insOkS_f _ _ _ _ _ _ _ _ _ _ _ g0 hQ g1 g2 g3
end Go.Proofs.Ytdpkbbbfnmneiaa
