/- AbsHas, the model's and the program's: they answer what the plain absHas says; they make memory of their own alone. -/
import Derived.Test.YtdpkbbbfnmneiaaAbsOk
import Derived.Test.YtdpkbbbfnmneiaaExLaw
import Derived.Test.YtdpkbbbfnmneiaaRunTo
namespace Go.Proofs.Ytdpkbbbfnmneiaa
open Go.ChangeShapes Go.WideShapes Go.ChangeAt Go.RowKit

def absHas (on : Bool) (n : Nat) (lo hi : Nat → Int) (c d : Int) (n1 : Nat) (z : Nat → Int) (n2 : Nat) (y : Nat → Int) : Bool :=
  absOk on n lo hi c d && on && decide (n1 = 4) && decide (n2 = 4) && hasTo lo hi z 4 && hasTo (fun _ => c) (fun _ => d) y 4

set_option maxHeartbeats 4000000 in
theorem comesI (on : Bool) (a : Option Addr) (b off n cap : Nat) (lo hi : Nat → Int) (c d : Int) (w : World) (hn : n ≤ 1048576) (hC : BndsAt a b off n lo hi w) :
    Calls Try.prog 104 #[.agg #[.bool on, .slice a n cap, .int .i64 c, .int .i64 d]] w fun e w' => e = .returned (.bool (on && absOk on n lo hi c d)) ∧ Below w.heap.size w w' := by
  have b0 : Below w.heap.size w (w.alloc (.cells #[.bool on, .slice a n cap, .int .i64 c, .int .i64 d] 77)) := (Below.refl _ _).alloc (Nat.le_refl _) _
  cases on
  · go_enter Try.func104, Try.ntmps104
    go_wp2_with fail
    go_ret
    exact ⟨rfl, b0⟩
  · go_enter Try.func104, Try.ntmps104
    go_wp2_with fail
    refine (absOkI _ _ _ _ _ _ _ _ _ _ _ hn (hC.next b0)).mono ?_
    rintro e w1 ⟨rfl, hb⟩
    go_wp2_with fail
    go_ret
    exact ⟨ret_bool (by simp), below_tr b0 hb⟩

end Go.Proofs.Ytdpkbbbfnmneiaa
