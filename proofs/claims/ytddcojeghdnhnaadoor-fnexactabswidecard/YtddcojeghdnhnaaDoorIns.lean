/- Steps: what the laws do with them (copies, compares) and the model's InsOk, l3Form, l1In. Each answers what the plain functions say; it makes memory of its own alone. -/
import Derived.Test.YtddcojeghdnhnaaDoorNums
import Derived.Test.YtddcojeghdnhnaaDoorPlainIns
import Derived.Test.YtddcojeghdnhnaaDoorHeld
import Derived.WalkKit
import Derived.ProofKit
import Derived.OpenShut
import Derived.Below
namespace Go.Proofs.YtddcojeghdnhnaaDoor
open Go.ChangeShapes Go.WideShapes Go.ChangeAt Go.RowKit

end Go.Proofs.YtddcojeghdnhnaaDoor
