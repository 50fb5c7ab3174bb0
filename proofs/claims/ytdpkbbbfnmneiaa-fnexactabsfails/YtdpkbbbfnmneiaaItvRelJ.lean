/- What of both can stand so to the other: the program's (I). -/
import Derived.Test.YtdpkbbbfnmneiaaItvKeptI
import Derived.WalkKit
import Derived.ProofKit
import Derived.OpenShut
import Derived.Below
namespace Go.Proofs.Ytdpkbbbfnmneiaa
open Go.ChangeShapes Go.WideShapes Go.ChangeAt Go.RowKit

theorem wo_both {a b c d : Int} (h1 : a ≤ b) (h2 : c ≤ d) : other a b c d = both (woLo a c d) (woHi b c d) (woLo c a b) (woHi d a b) := by
  by_cases e1 : c = d
  · subst e1
    by_cases e2 : a = b
    · subst e2
      by_cases e3 : a = c
      · subst e3
        simp [other, otherOk, otherOk1, cutOk, both, woLo, woHi]
        omega
      · have e4 : ¬ c = a := fun h => e3 h.symm
        simp [other, otherOk, otherOk1, cutOk, cutLo, cutHi, both, woLo, woHi, e3, e4]
    · by_cases e3 : a = c
      · subst e3
        have e5 : ¬ b = a := fun h => e2 h.symm
        simp [other, otherOk, otherOk1, cutOk, cutLo, cutHi, both, woLo, woHi, e2, e5]
        omega
      · by_cases e4 : b = c
        · subst e4
          simp [other, otherOk, otherOk1, cutOk, cutLo, cutHi, both, woLo, woHi, e2]
          omega
        · simp [other, otherOk, otherOk1, cutOk, cutLo, cutHi, both, woLo, woHi, e2, e3, e4]
          omega
  · by_cases e2 : a = b
    · subst e2
      by_cases e3 : c = a
      · subst e3
        have e5 : ¬ d = c := fun h => e1 h.symm
        simp [other, otherOk, otherOk1, cutOk, cutLo, cutHi, both, woLo, woHi, e1, e5]
        omega
      · by_cases e4 : d = a
        · subst e4
          simp [other, otherOk, otherOk1, cutOk, cutLo, cutHi, both, woLo, woHi, e1]
          omega
        · simp [other, otherOk, otherOk1, cutOk, cutLo, cutHi, both, woLo, woHi, e1, e3, e4]
          omega
    · simp [other, otherOk, otherOk1, both, woLo, woHi, e1, e2]
      omega

theorem keptR_1 (a b c d : Int) (w : World) :
    Calls Try.prog 125 #[.iface 204 (.agg #[]), .agg #[.int .i64 a, .int .i64 b], .agg #[.int .i64 c, .int .i64 d]] w fun e w' => e = .returned (.tuple #[.agg #[.int .i64 (itvRel 1 a b c d).l0, .int .i64 (itvRel 1 a b c d).h0], .agg #[.int .i64 (itvRel 1 a b c d).l1, .int .i64 (itvRel 1 a b c d).h1], .bool (itvRel 1 a b c d).ok]) ∧ Below w.heap.size w w' := by
  cases hab : itvOk a b
  · have k : itvRel 1 a b c d = Two.none := by simp [itvRel, two, hab]
    rw [k]
    exact keptI_na _ _ _ _ _ _ hab
  cases hcd : itvOk c d
  · have k : itvRel 1 a b c d = Two.none := by simp [itvRel, two, hcd]
    rw [k]
    exact keptI_nb _ _ _ _ _ _ hab hcd
  have k : itvRel 1 a b c d = both a (min b (d - 1)) (max c (a + 1)) d := by simp [itvRel, two, hab, hcd]
  rw [k]
  exact keptI_1 _ _ _ _ _ _ _ _ _ hab hcd ⟨rfl, rfl, rfl, rfl⟩

theorem keptR_2 (a b c d : Int) (w : World) :
    Calls Try.prog 125 #[.iface 205 (.agg #[]), .agg #[.int .i64 a, .int .i64 b], .agg #[.int .i64 c, .int .i64 d]] w fun e w' => e = .returned (.tuple #[.agg #[.int .i64 (itvRel 2 a b c d).l0, .int .i64 (itvRel 2 a b c d).h0], .agg #[.int .i64 (itvRel 2 a b c d).l1, .int .i64 (itvRel 2 a b c d).h1], .bool (itvRel 2 a b c d).ok]) ∧ Below w.heap.size w w' := by
  cases hab : itvOk a b
  · have k : itvRel 2 a b c d = Two.none := by simp [itvRel, two, hab]
    rw [k]
    exact keptI_na _ _ _ _ _ _ hab
  cases hcd : itvOk c d
  · have k : itvRel 2 a b c d = Two.none := by simp [itvRel, two, hcd]
    rw [k]
    exact keptI_nb _ _ _ _ _ _ hab hcd
  have k : itvRel 2 a b c d = both a (min b d) (max c a) d := by simp [itvRel, two, hab, hcd]
  rw [k]
  exact keptI_2 _ _ _ _ _ _ _ _ _ hab hcd ⟨rfl, rfl, rfl, rfl⟩

theorem keptR_3 (a b c d : Int) (w : World) :
    Calls Try.prog 125 #[.iface 206 (.agg #[]), .agg #[.int .i64 a, .int .i64 b], .agg #[.int .i64 c, .int .i64 d]] w fun e w' => e = .returned (.tuple #[.agg #[.int .i64 (itvRel 3 a b c d).l0, .int .i64 (itvRel 3 a b c d).h0], .agg #[.int .i64 (itvRel 3 a b c d).l1, .int .i64 (itvRel 3 a b c d).h1], .bool (itvRel 3 a b c d).ok]) ∧ Below w.heap.size w w' := by
  cases hab : itvOk a b
  · have k : itvRel 3 a b c d = Two.none := by simp [itvRel, two, hab]
    rw [k]
    exact keptI_na _ _ _ _ _ _ hab
  cases hcd : itvOk c d
  · have k : itvRel 3 a b c d = Two.none := by simp [itvRel, two, hcd]
    rw [k]
    exact keptI_nb _ _ _ _ _ _ hab hcd
  have k : itvRel 3 a b c d = both (max a c) (min b d) (max a c) (min b d) := by simp [itvRel, two, hab, hcd]
  rw [k]
  exact keptI_3 _ _ _ _ _ _ _ _ _ hab hcd ⟨rfl, rfl, rfl, rfl⟩

theorem keptR_4 (a b c d : Int) (w : World) :
    Calls Try.prog 125 #[.iface 207 (.agg #[]), .agg #[.int .i64 a, .int .i64 b], .agg #[.int .i64 c, .int .i64 d]] w fun e w' => e = .returned (.tuple #[.agg #[.int .i64 (itvRel 4 a b c d).l0, .int .i64 (itvRel 4 a b c d).h0], .agg #[.int .i64 (itvRel 4 a b c d).l1, .int .i64 (itvRel 4 a b c d).h1], .bool (itvRel 4 a b c d).ok]) ∧ Below w.heap.size w w' := by
  cases hab : itvOk a b
  · have k : itvRel 4 a b c d = Two.none := by simp [itvRel, two, hab]
    rw [k]
    exact keptI_na _ _ _ _ _ _ hab
  cases hcd : itvOk c d
  · have k : itvRel 4 a b c d = Two.none := by simp [itvRel, two, hcd]
    rw [k]
    exact keptI_nb _ _ _ _ _ _ hab hcd
  have k : itvRel 4 a b c d = both (woLo a c d) (woHi b c d) (woLo c a b) (woHi d a b) := by rw [← wo_both (itvOk_of hab).2.2 (itvOk_of hcd).2.2]; simp [itvRel, two, hab, hcd]
  rw [k]
  exact keptI_4 _ _ _ _ _ _ _ _ _ hab hcd ⟨rfl, rfl, rfl, rfl⟩

end Go.Proofs.Ytdpkbbbfnmneiaa
