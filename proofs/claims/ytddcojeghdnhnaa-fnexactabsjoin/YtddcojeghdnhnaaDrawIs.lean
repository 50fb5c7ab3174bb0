/- Words for what is known of a value in a region. No program in it. -/
import Derived.Test.YtddcojeghdnhnaaRegInv
namespace Go.Proofs.Ytddcojeghdnhnaa
def TT (_ : Nat) (_ _ : World) : Prop := True
def Is (x v : Value) : Prop := v = x
end Go.Proofs.Ytddcojeghdnhnaa
