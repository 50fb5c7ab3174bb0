/- What of both can stand so to the other: the program's (I). -/
import Derived.Test.YtceanngbcolbaaaItvKeptI
import Derived.WalkKit
import Derived.ProofKit
import Derived.OpenShut
import Derived.Below
namespace Go.Proofs.Ytceanngbcolbaaa
open Go.ChangeShapes Go.WideShapes Go.ChangeAt Go.RowKit

theorem wo_both {a b c d : Int} (h1 : a ≤ b) (h2 : c ≤ d) : other a b c d = both (woLo a c d) (woHi b c d) (woLo c a b) (woHi d a b) := by
  by_cases e1 : c = d
  · subst e1
    by_cases e2 : a = b
    · subst e2
      by_cases e3 : a = c
      · subst e3
        simp [other, otherOk, otherOk1, cutOk, both, woLo, woHi]
        omega
      · have e4 : ¬ c = a := fun h => e3 h.symm
        simp [other, otherOk, otherOk1, cutOk, cutLo, cutHi, both, woLo, woHi, e3, e4]
    · by_cases e3 : a = c
      · subst e3
        have e5 : ¬ b = a := fun h => e2 h.symm
        simp [other, otherOk, otherOk1, cutOk, cutLo, cutHi, both, woLo, woHi, e2, e5]
        omega
      · by_cases e4 : b = c
        · subst e4
          simp [other, otherOk, otherOk1, cutOk, cutLo, cutHi, both, woLo, woHi, e2]
          omega
        · simp [other, otherOk, otherOk1, cutOk, cutLo, cutHi, both, woLo, woHi, e2, e3, e4]
          omega
  · by_cases e2 : a = b
    · subst e2
      by_cases e3 : c = a
      · subst e3
        have e5 : ¬ d = c := fun h => e1 h.symm
        simp [other, otherOk, otherOk1, cutOk, cutLo, cutHi, both, woLo, woHi, e1, e5]
        omega
      · by_cases e4 : d = a
        · subst e4
          simp [other, otherOk, otherOk1, cutOk, cutLo, cutHi, both, woLo, woHi, e1]
          omega
        · simp [other, otherOk, otherOk1, cutOk, cutLo, cutHi, both, woLo, woHi, e1, e3, e4]
          omega
    · simp [other, otherOk, otherOk1, both, woLo, woHi, e1, e2]
      omega

theorem keptR_1 (a b c d : Int) (w : World) :
    Calls Try.prog 49 #[.iface 79 (.agg #[]), .agg #[.int .i64 a, .int .i64 b], .agg #[.int .i64 c, .int .i64 d]] w fun e w' => e = .returned (.tuple #[.agg #[.int .i64 (itvRel 1 a b c d).l0, .int .i64 (itvRel 1 a b c d).h0], .agg #[.int .i64 (itvRel 1 a b c d).l1, .int .i64 (itvRel 1 a b c d).h1], .bool (itvRel 1 a b c d).ok]) ∧ Below w.heap.size w w' := by
  cases hab : itvOk a b
  · have k : itvRel 1 a b c d = Two.none := by simp [itvRel, two, hab]
    rw [k]
    exact keptI_na _ _ _ _ _ _ hab
  cases hcd : itvOk c d
  · have k : itvRel 1 a b c d = Two.none := by simp [itvRel, two, hcd]
    rw [k]
    exact keptI_nb _ _ _ _ _ _ hab hcd
  have k : itvRel 1 a b c d = both a (min b (d - 1)) (max c (a + 1)) d := by simp [itvRel, two, hab, hcd]
  rw [k]
  exact keptI_1 _ _ _ _ _ _ _ _ _ hab hcd ⟨rfl, rfl, rfl, rfl⟩

theorem keptR_2 (a b c d : Int) (w : World) :
    Calls Try.prog 49 #[.iface 80 (.agg #[]), .agg #[.int .i64 a, .int .i64 b], .agg #[.int .i64 c, .int .i64 d]] w fun e w' => e = .returned (.tuple #[.agg #[.int .i64 (itvRel 2 a b c d).l0, .int .i64 (itvRel 2 a b c d).h0], .agg #[.int .i64 (itvRel 2 a b c d).l1, .int .i64 (itvRel 2 a b c d).h1], .bool (itvRel 2 a b c d).ok]) ∧ Below w.heap.size w w' := by
  cases hab : itvOk a b
  · have k : itvRel 2 a b c d = Two.none := by simp [itvRel, two, hab]
    rw [k]
    exact keptI_na _ _ _ _ _ _ hab
  cases hcd : itvOk c d
  · have k : itvRel 2 a b c d = Two.none := by simp [itvRel, two, hcd]
    rw [k]
    exact keptI_nb _ _ _ _ _ _ hab hcd
  have k : itvRel 2 a b c d = both a (min b d) (max c a) d := by simp [itvRel, two, hab, hcd]
  rw [k]
  exact keptI_2 _ _ _ _ _ _ _ _ _ hab hcd ⟨rfl, rfl, rfl, rfl⟩

theorem keptR_3 (a b c d : Int) (w : World) :
    Calls Try.prog 49 #[.iface 81 (.agg #[]), .agg #[.int .i64 a, .int .i64 b], .agg #[.int .i64 c, .int .i64 d]] w fun e w' => e = .returned (.tuple #[.agg #[.int .i64 (itvRel 3 a b c d).l0, .int .i64 (itvRel 3 a b c d).h0], .agg #[.int .i64 (itvRel 3 a b c d).l1, .int .i64 (itvRel 3 a b c d).h1], .bool (itvRel 3 a b c d).ok]) ∧ Below w.heap.size w w' := by
  cases hab : itvOk a b
  · have k : itvRel 3 a b c d = Two.none := by simp [itvRel, two, hab]
    rw [k]
    exact keptI_na _ _ _ _ _ _ hab
  cases hcd : itvOk c d
  · have k : itvRel 3 a b c d = Two.none := by simp [itvRel, two, hcd]
    rw [k]
    exact keptI_nb _ _ _ _ _ _ hab hcd
  have k : itvRel 3 a b c d = both (max a c) (min b d) (max a c) (min b d) := by simp [itvRel, two, hab, hcd]
  rw [k]
  exact keptI_3 _ _ _ _ _ _ _ _ _ hab hcd ⟨rfl, rfl, rfl, rfl⟩

theorem keptR_4 (a b c d : Int) (w : World) :
    Calls Try.prog 49 #[.iface 82 (.agg #[]), .agg #[.int .i64 a, .int .i64 b], .agg #[.int .i64 c, .int .i64 d]] w fun e w' => e = .returned (.tuple #[.agg #[.int .i64 (itvRel 4 a b c d).l0, .int .i64 (itvRel 4 a b c d).h0], .agg #[.int .i64 (itvRel 4 a b c d).l1, .int .i64 (itvRel 4 a b c d).h1], .bool (itvRel 4 a b c d).ok]) ∧ Below w.heap.size w w' := by
  cases hab : itvOk a b
  · have k : itvRel 4 a b c d = Two.none := by simp [itvRel, two, hab]
    rw [k]
    exact keptI_na _ _ _ _ _ _ hab
  cases hcd : itvOk c d
  · have k : itvRel 4 a b c d = Two.none := by simp [itvRel, two, hcd]
    rw [k]
    exact keptI_nb _ _ _ _ _ _ hab hcd
  have k : itvRel 4 a b c d = both (woLo a c d) (woHi b c d) (woLo c a b) (woHi d a b) := by rw [← wo_both (itvOk_of hab).2.2 (itvOk_of hcd).2.2]; simp [itvRel, two, hab, hcd]
  rw [k]
  exact keptI_4 _ _ _ _ _ _ _ _ _ hab hcd ⟨rfl, rfl, rfl, rfl⟩

set_option maxRecDepth 10000 in
set_option maxHeartbeats 4000000 in
theorem itvRelI_1 (a b c d : Int) (w : World) :
    Calls Try.prog 18 #[.int .i64 1, .agg #[.int .i64 a, .int .i64 b], .agg #[.int .i64 c, .int .i64 d]] w fun e w' => e = .returned (.tuple #[.agg #[.int .i64 (itvRel 1 a b c d).l0, .int .i64 (itvRel 1 a b c d).h0], .agg #[.int .i64 (itvRel 1 a b c d).l1, .int .i64 (itvRel 1 a b c d).h1], .bool (itvRel 1 a b c d).ok]) ∧ Below w.heap.size w w' := by
  go_enter Try.func18, Try.ntmps18
  go_wp2_with (go_at_call 48; refine (standOfI_1 _).mono ?_; rintro e w' ⟨rfl, rfl⟩)
  refine (keptR_1 _ _ _ _ _).mono ?_
  rintro e w1 ⟨rfl, hB⟩
  have H1 := HeldL.next hB (held4 w (.int .i64 a) (.int .i64 b) (.int .i64 c) (.int .i64 d) (.int .i64 0) (.int .i64 0) (.int .i64 0) (.int .i64 0) 24)
  have c00 : w1.cell? ⟨w.heap.size + 1 + 1 + 1, 0, none⟩ = some (.int .i64 (0)) := H1.cell (e := (w.heap.size + 1 + 1 + 1, [.int .i64 (0), .int .i64 (0)])) (by simp) (i := 0) rfl
  have c01 : w1.cell? ⟨w.heap.size + 1 + 1 + 1, 1, none⟩ = some (.int .i64 (0)) := H1.cell (e := (w.heap.size + 1 + 1 + 1, [.int .i64 (0), .int .i64 (0)])) (by simp) (i := 1) rfl
  have f0 : ∀ i, w1.frozen? ⟨w.heap.size + 1 + 1 + 1, i, none⟩ = false := H1.free (w.heap.size + 1 + 1 + 1, [.int .i64 (0), .int .i64 (0)]) (by simp)
  have c10 : w1.cell? ⟨w.heap.size + 1 + 1, 0, none⟩ = some (.int .i64 (0)) := H1.cell (e := (w.heap.size + 1 + 1, [.int .i64 (0), .int .i64 (0)])) (by simp) (i := 0) rfl
  have c11 : w1.cell? ⟨w.heap.size + 1 + 1, 1, none⟩ = some (.int .i64 (0)) := H1.cell (e := (w.heap.size + 1 + 1, [.int .i64 (0), .int .i64 (0)])) (by simp) (i := 1) rfl
  have f1 : ∀ i, w1.frozen? ⟨w.heap.size + 1 + 1, i, none⟩ = false := H1.free (w.heap.size + 1 + 1, [.int .i64 (0), .int .i64 (0)]) (by simp)
  go_wp2_with fail
  refine bodyPost_ret (v := .tuple #[.agg #[.int .i64 (itvRel 1 a b c d).l0, .int .i64 (itvRel 1 a b c d).h0], .agg #[.int .i64 (itvRel 1 a b c d).l1, .int .i64 (itvRel 1 a b c d).h1], .bool (itvRel 1 a b c d).ok]) (by simp [results, Try.results18, go_sem, cell_set, c00, c01, c10, c11]) rfl ⟨rfl, ?_⟩
  repeat (first | exact H1.below | refine Below.drew ?_ | refine Below.setCell ?_ (by simp; try omega) _)

set_option maxRecDepth 10000 in
set_option maxHeartbeats 4000000 in
theorem itvRelI_2 (a b c d : Int) (w : World) :
    Calls Try.prog 18 #[.int .i64 2, .agg #[.int .i64 a, .int .i64 b], .agg #[.int .i64 c, .int .i64 d]] w fun e w' => e = .returned (.tuple #[.agg #[.int .i64 (itvRel 2 a b c d).l0, .int .i64 (itvRel 2 a b c d).h0], .agg #[.int .i64 (itvRel 2 a b c d).l1, .int .i64 (itvRel 2 a b c d).h1], .bool (itvRel 2 a b c d).ok]) ∧ Below w.heap.size w w' := by
  go_enter Try.func18, Try.ntmps18
  go_wp2_with (go_at_call 48; refine (standOfI_2 _).mono ?_; rintro e w' ⟨rfl, rfl⟩)
  refine (keptR_2 _ _ _ _ _).mono ?_
  rintro e w1 ⟨rfl, hB⟩
  have H1 := HeldL.next hB (held4 w (.int .i64 a) (.int .i64 b) (.int .i64 c) (.int .i64 d) (.int .i64 0) (.int .i64 0) (.int .i64 0) (.int .i64 0) 24)
  have c00 : w1.cell? ⟨w.heap.size + 1 + 1 + 1, 0, none⟩ = some (.int .i64 (0)) := H1.cell (e := (w.heap.size + 1 + 1 + 1, [.int .i64 (0), .int .i64 (0)])) (by simp) (i := 0) rfl
  have c01 : w1.cell? ⟨w.heap.size + 1 + 1 + 1, 1, none⟩ = some (.int .i64 (0)) := H1.cell (e := (w.heap.size + 1 + 1 + 1, [.int .i64 (0), .int .i64 (0)])) (by simp) (i := 1) rfl
  have f0 : ∀ i, w1.frozen? ⟨w.heap.size + 1 + 1 + 1, i, none⟩ = false := H1.free (w.heap.size + 1 + 1 + 1, [.int .i64 (0), .int .i64 (0)]) (by simp)
  have c10 : w1.cell? ⟨w.heap.size + 1 + 1, 0, none⟩ = some (.int .i64 (0)) := H1.cell (e := (w.heap.size + 1 + 1, [.int .i64 (0), .int .i64 (0)])) (by simp) (i := 0) rfl
  have c11 : w1.cell? ⟨w.heap.size + 1 + 1, 1, none⟩ = some (.int .i64 (0)) := H1.cell (e := (w.heap.size + 1 + 1, [.int .i64 (0), .int .i64 (0)])) (by simp) (i := 1) rfl
  have f1 : ∀ i, w1.frozen? ⟨w.heap.size + 1 + 1, i, none⟩ = false := H1.free (w.heap.size + 1 + 1, [.int .i64 (0), .int .i64 (0)]) (by simp)
  go_wp2_with fail
  refine bodyPost_ret (v := .tuple #[.agg #[.int .i64 (itvRel 2 a b c d).l0, .int .i64 (itvRel 2 a b c d).h0], .agg #[.int .i64 (itvRel 2 a b c d).l1, .int .i64 (itvRel 2 a b c d).h1], .bool (itvRel 2 a b c d).ok]) (by simp [results, Try.results18, go_sem, cell_set, c00, c01, c10, c11]) rfl ⟨rfl, ?_⟩
  repeat (first | exact H1.below | refine Below.drew ?_ | refine Below.setCell ?_ (by simp; try omega) _)

set_option maxRecDepth 10000 in
set_option maxHeartbeats 4000000 in
theorem itvRelI_3 (a b c d : Int) (w : World) :
    Calls Try.prog 18 #[.int .i64 3, .agg #[.int .i64 a, .int .i64 b], .agg #[.int .i64 c, .int .i64 d]] w fun e w' => e = .returned (.tuple #[.agg #[.int .i64 (itvRel 3 a b c d).l0, .int .i64 (itvRel 3 a b c d).h0], .agg #[.int .i64 (itvRel 3 a b c d).l1, .int .i64 (itvRel 3 a b c d).h1], .bool (itvRel 3 a b c d).ok]) ∧ Below w.heap.size w w' := by
  go_enter Try.func18, Try.ntmps18
  go_wp2_with (go_at_call 48; refine (standOfI_3 _).mono ?_; rintro e w' ⟨rfl, rfl⟩)
  refine (keptR_3 _ _ _ _ _).mono ?_
  rintro e w1 ⟨rfl, hB⟩
  have H1 := HeldL.next hB (held4 w (.int .i64 a) (.int .i64 b) (.int .i64 c) (.int .i64 d) (.int .i64 0) (.int .i64 0) (.int .i64 0) (.int .i64 0) 24)
  have c00 : w1.cell? ⟨w.heap.size + 1 + 1 + 1, 0, none⟩ = some (.int .i64 (0)) := H1.cell (e := (w.heap.size + 1 + 1 + 1, [.int .i64 (0), .int .i64 (0)])) (by simp) (i := 0) rfl
  have c01 : w1.cell? ⟨w.heap.size + 1 + 1 + 1, 1, none⟩ = some (.int .i64 (0)) := H1.cell (e := (w.heap.size + 1 + 1 + 1, [.int .i64 (0), .int .i64 (0)])) (by simp) (i := 1) rfl
  have f0 : ∀ i, w1.frozen? ⟨w.heap.size + 1 + 1 + 1, i, none⟩ = false := H1.free (w.heap.size + 1 + 1 + 1, [.int .i64 (0), .int .i64 (0)]) (by simp)
  have c10 : w1.cell? ⟨w.heap.size + 1 + 1, 0, none⟩ = some (.int .i64 (0)) := H1.cell (e := (w.heap.size + 1 + 1, [.int .i64 (0), .int .i64 (0)])) (by simp) (i := 0) rfl
  have c11 : w1.cell? ⟨w.heap.size + 1 + 1, 1, none⟩ = some (.int .i64 (0)) := H1.cell (e := (w.heap.size + 1 + 1, [.int .i64 (0), .int .i64 (0)])) (by simp) (i := 1) rfl
  have f1 : ∀ i, w1.frozen? ⟨w.heap.size + 1 + 1, i, none⟩ = false := H1.free (w.heap.size + 1 + 1, [.int .i64 (0), .int .i64 (0)]) (by simp)
  go_wp2_with fail
  refine bodyPost_ret (v := .tuple #[.agg #[.int .i64 (itvRel 3 a b c d).l0, .int .i64 (itvRel 3 a b c d).h0], .agg #[.int .i64 (itvRel 3 a b c d).l1, .int .i64 (itvRel 3 a b c d).h1], .bool (itvRel 3 a b c d).ok]) (by simp [results, Try.results18, go_sem, cell_set, c00, c01, c10, c11]) rfl ⟨rfl, ?_⟩
  repeat (first | exact H1.below | refine Below.drew ?_ | refine Below.setCell ?_ (by simp; try omega) _)

set_option maxRecDepth 10000 in
set_option maxHeartbeats 4000000 in
theorem itvRelI_4 (a b c d : Int) (w : World) :
    Calls Try.prog 18 #[.int .i64 4, .agg #[.int .i64 a, .int .i64 b], .agg #[.int .i64 c, .int .i64 d]] w fun e w' => e = .returned (.tuple #[.agg #[.int .i64 (itvRel 4 a b c d).l0, .int .i64 (itvRel 4 a b c d).h0], .agg #[.int .i64 (itvRel 4 a b c d).l1, .int .i64 (itvRel 4 a b c d).h1], .bool (itvRel 4 a b c d).ok]) ∧ Below w.heap.size w w' := by
  go_enter Try.func18, Try.ntmps18
  go_wp2_with (go_at_call 48; refine (standOfI_4 _).mono ?_; rintro e w' ⟨rfl, rfl⟩)
  refine (keptR_4 _ _ _ _ _).mono ?_
  rintro e w1 ⟨rfl, hB⟩
  have H1 := HeldL.next hB (held4 w (.int .i64 a) (.int .i64 b) (.int .i64 c) (.int .i64 d) (.int .i64 0) (.int .i64 0) (.int .i64 0) (.int .i64 0) 24)
  have c00 : w1.cell? ⟨w.heap.size + 1 + 1 + 1, 0, none⟩ = some (.int .i64 (0)) := H1.cell (e := (w.heap.size + 1 + 1 + 1, [.int .i64 (0), .int .i64 (0)])) (by simp) (i := 0) rfl
  have c01 : w1.cell? ⟨w.heap.size + 1 + 1 + 1, 1, none⟩ = some (.int .i64 (0)) := H1.cell (e := (w.heap.size + 1 + 1 + 1, [.int .i64 (0), .int .i64 (0)])) (by simp) (i := 1) rfl
  have f0 : ∀ i, w1.frozen? ⟨w.heap.size + 1 + 1 + 1, i, none⟩ = false := H1.free (w.heap.size + 1 + 1 + 1, [.int .i64 (0), .int .i64 (0)]) (by simp)
  have c10 : w1.cell? ⟨w.heap.size + 1 + 1, 0, none⟩ = some (.int .i64 (0)) := H1.cell (e := (w.heap.size + 1 + 1, [.int .i64 (0), .int .i64 (0)])) (by simp) (i := 0) rfl
  have c11 : w1.cell? ⟨w.heap.size + 1 + 1, 1, none⟩ = some (.int .i64 (0)) := H1.cell (e := (w.heap.size + 1 + 1, [.int .i64 (0), .int .i64 (0)])) (by simp) (i := 1) rfl
  have f1 : ∀ i, w1.frozen? ⟨w.heap.size + 1 + 1, i, none⟩ = false := H1.free (w.heap.size + 1 + 1, [.int .i64 (0), .int .i64 (0)]) (by simp)
  go_wp2_with fail
  refine bodyPost_ret (v := .tuple #[.agg #[.int .i64 (itvRel 4 a b c d).l0, .int .i64 (itvRel 4 a b c d).h0], .agg #[.int .i64 (itvRel 4 a b c d).l1, .int .i64 (itvRel 4 a b c d).h1], .bool (itvRel 4 a b c d).ok]) (by simp [results, Try.results18, go_sem, cell_set, c00, c01, c10, c11]) rfl ⟨rfl, ?_⟩
  repeat (first | exact H1.below | refine Below.drew ?_ | refine Below.setCell ?_ (by simp; try omega) _)

set_option maxHeartbeats 2000000 in
theorem itvRelI_n (rel a b c d : Int) (w : World) (h1 : rel ≠ 1) (h2 : rel ≠ 2) (h3 : rel ≠ 3) (h4 : rel ≠ 4) :
    Calls Try.prog 18 #[.int .i64 rel, .agg #[.int .i64 a, .int .i64 b], .agg #[.int .i64 c, .int .i64 d]] w fun e w' => e = .returned (.tuple #[.agg #[.int .i64 0, .int .i64 0], .agg #[.int .i64 0, .int .i64 0], .bool false]) ∧ Below w.heap.size w w' := by
  go_enter Try.func18, Try.ntmps18
  go_wp2_with (go_at_call 48; refine (standOfI_n _ _ h1 h2 h3 h4).mono ?_; rintro e w' ⟨rfl, rfl⟩)
  refine bodyPost_ret (v := .tuple #[.agg #[.int .i64 0, .int .i64 0], .agg #[.int .i64 0, .int .i64 0], .bool false]) (by simp [results, Try.results18, go_sem]) rfl ⟨rfl, ?_⟩
  repeat (first | exact Below.refl _ _ | refine Below.drew ?_ | refine Below.alloc ?_ (by simp; try omega) _ | refine Below.setCell ?_ (by simp; try omega) _)

theorem itvRelI (rel a b c d : Int) (w : World) :
    Calls Try.prog 18 #[.int .i64 rel, .agg #[.int .i64 a, .int .i64 b], .agg #[.int .i64 c, .int .i64 d]] w fun e w' => e = .returned (.tuple #[.agg #[.int .i64 (itvRel rel a b c d).l0, .int .i64 (itvRel rel a b c d).h0], .agg #[.int .i64 (itvRel rel a b c d).l1, .int .i64 (itvRel rel a b c d).h1], .bool (itvRel rel a b c d).ok]) ∧ Below w.heap.size w w' := by
  by_cases h1 : rel = 1
  · subst h1; exact itvRelI_1 _ _ _ _ _
  by_cases h2 : rel = 2
  · subst h2; exact itvRelI_2 _ _ _ _ _
  by_cases h3 : rel = 3
  · subst h3; exact itvRelI_3 _ _ _ _ _
  by_cases h4 : rel = 4
  · subst h4; exact itvRelI_4 _ _ _ _ _
  have k : itvRel rel a b c d = Two.none := by simp [itvRel, h1, h2, h3, h4]
  rw [k]
  exact itvRelI_n _ _ _ _ _ _ h1 h2 h3 h4
end Go.Proofs.Ytceanngbcolbaaa
