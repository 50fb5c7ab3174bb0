/- Join and meet of bounds: the model's (S). -/
import Derived.Test.YtbnpbjkdigmphabItv
import Derived.WalkKit
import Derived.ProofKit
import Derived.OpenShut
import Derived.Below
namespace Go.Proofs.Ytbnpbjkdigmphab
open Go.ChangeShapes Go.WideShapes Go.ChangeAt Go.RowKit

end Go.Proofs.Ytbnpbjkdigmphab
