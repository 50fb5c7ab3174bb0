/- Contracts of chapter 2's functions: the program's (I). Each answers what the plain functions say, whatever the ends are; it makes memory of its own alone. -/
import Derived.Test.YtpgdefaiojjjfacDoorItv
import Derived.WalkKit
import Derived.ProofKit
import Derived.OpenShut
import Derived.Below
namespace Go.Proofs.YtpgdefaiojjjfacDoor
open Go.ChangeShapes Go.WideShapes Go.ChangeAt Go.RowKit

theorem meet_ok {a b c d : Int} (h1 : itvOk a b = true) (h2 : itvOk c d = true) : itvOk (max a c) (min b d) = meetOk a b c d := by
  have k1 := itvOk_of h1
  have k2 := itvOk_of h2
  have a1 := ok_lo k1.1
  have a2 := ok_hi k1.1
  have a3 := ok_lo k1.2.1
  have a4 := ok_hi k1.2.1
  have a5 := ok_lo k2.1
  have a6 := ok_hi k2.1
  have a7 := ok_lo k2.2.1
  have a8 := ok_hi k2.2.1
  have e1 : okB (max a c) = true := by simp [okB]; omega
  have e2 : okB (min b d) = true := by simp [okB]; omega
  rw [meetOk, two, h1, h2, itvOk, e1, e2]
end Go.Proofs.YtpgdefaiojjjfacDoor
