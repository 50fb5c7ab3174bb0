/- Words for what is known of a value in a region. No program in it. -/
import Derived.Test.YtdpkbbbfnmneiaaRegInv
namespace Go.Proofs.Ytdpkbbbfnmneiaa
def TT (_ : Nat) (_ _ : World) : Prop := True
def Is (x v : Value) : Prop := v = x
end Go.Proofs.Ytdpkbbbfnmneiaa
