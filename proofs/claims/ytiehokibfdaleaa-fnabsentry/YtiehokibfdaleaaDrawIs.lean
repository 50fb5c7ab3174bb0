/- Words for what is known of a value in a region. No program in it. -/
import Derived.Test.YtiehokibfdaleaaRegInv
namespace Go.Proofs.Ytiehokibfdaleaa
def TT (_ : Nat) (_ _ : World) : Prop := True
def Is (x v : Value) : Prop := v = x
end Go.Proofs.Ytiehokibfdaleaa
