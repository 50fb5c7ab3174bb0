/- AbsIn, the model's and the program's: they answer what the plain absIn says; they make memory of their own alone. -/
import Derived.Test.YtdpkbbbfnmneiaaArr
namespace Go.Proofs.Ytdpkbbbfnmneiaa
open Go.ChangeShapes Go.WideShapes Go.ChangeAt Go.RowKit
set_option linter.unusedVariables false

def absIn (on : Bool) (n : Nat) (lo hi : Nat → Int) (c d : Int) (on' : Bool) (n' : Nat) (lo' hi' : Nat → Int) (c' d' : Int) : Bool :=
  absOk on n lo hi c d && (absOk on' n' lo' hi' c' d' && (match on, on' with
    | false, _ => true
    | true, false => false
    | true, true => itvIn c d c' d' && inTo lo hi lo' hi' 4))
end Go.Proofs.Ytdpkbbbfnmneiaa
