/- Join and meet of bounds: the model's (S). -/
import Derived.Test.YtddcojeghdnhnaaDoorItv
import Derived.WalkKit
import Derived.ProofKit
import Derived.OpenShut
import Derived.Below
namespace Go.Proofs.YtddcojeghdnhnaaDoor
open Go.ChangeShapes Go.WideShapes Go.ChangeAt Go.RowKit

end Go.Proofs.YtddcojeghdnhnaaDoor
