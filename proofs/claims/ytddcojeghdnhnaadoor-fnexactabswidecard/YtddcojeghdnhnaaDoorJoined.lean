/- An arrival's join; the fold over two of them. -/
import Derived.Test.YtddcojeghdnhnaaDoorBeside
namespace Go.Proofs.YtddcojeghdnhnaaDoor
open Go.ChangeShapes Go.WideShapes Go.ChangeAt Go.RowKit
set_option linter.unusedVariables false

def jF (on on' : Bool) (l l' F : Nat → Int) : Nat → Int := match on, on' with
  | false, _ => l'
  | true, false => l
  | true, true => F
/-- What the fold has behind k of two. -/
def stO (on on' : Bool) : Nat → Bool
  | 0 => false
  | 1 => on
  | _ => on || on'
def stL (on on' : Bool) (l l' F : Nat → Int) : Nat → Nat → Int
  | 0 => fun _ => 0
  | 1 => l
  | _ => jF on on' l l' F
end Go.Proofs.YtddcojeghdnhnaaDoor
