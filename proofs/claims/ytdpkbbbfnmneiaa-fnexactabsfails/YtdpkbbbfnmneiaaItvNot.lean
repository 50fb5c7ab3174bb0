/- What of both can stand otherwise to the other: the model's (S). -/
import Derived.Test.YtdpkbbbfnmneiaaItvRelB
import Derived.WalkKit
import Derived.ProofKit
import Derived.OpenShut
import Derived.Below
import Derived.Deep.RegionHeld3
import Derived.Deep.DeepCutAuto
namespace Go.Proofs.Ytdpkbbbfnmneiaa
open Go.ChangeShapes Go.WideShapes Go.ChangeAt Go.RowKit

set_option maxRecDepth 10000 in
set_option maxHeartbeats 4000000 in
theorem itvNotS_no (rel a b c d : Int) (w : World) (n1 : rel ≠ 1) (n2 : rel ≠ 2) (n3 : rel ≠ 3) (n4 : rel ≠ 4) :
    Calls Try.prog 73 #[.int .i64 rel, .agg #[.int .i64 a, .int .i64 b], .agg #[.int .i64 c, .int .i64 d]] w fun e w' => e = .returned (.tuple #[.agg #[.int .i64 0, .int .i64 0], .agg #[.int .i64 0, .int .i64 0], .bool false]) ∧ Below w.heap.size w w' := by
  have g1 : (rel == 1) = false := by simpa using n1
  have g2 : (rel == 2) = false := by simpa using n2
  have g3 : (rel == 3) = false := by simpa using n3
  have g4 : (rel == 4) = false := by simpa using n4
  go_enter Try.func73, Try.ntmps73
  go_wp2_with fail
  refine bodyPost_ret (v := .tuple #[.agg #[.int .i64 0, .int .i64 0], .agg #[.int .i64 0, .int .i64 0], .bool false]) (by simp [results, Try.results73, go_sem]) rfl ⟨rfl, ?_⟩
  repeat (first | exact Below.refl _ _ | refine Below.drew ?_ | refine Below.alloc ?_ (by simp; try omega) _ | refine Below.setCell ?_ (by simp; try omega) _)

set_option maxRecDepth 10000 in
set_option maxHeartbeats 4000000 in
theorem itvNotS_3 (a b c d : Int) (w : World)  :
    Calls Try.prog 73 #[.int .i64 3, .agg #[.int .i64 a, .int .i64 b], .agg #[.int .i64 c, .int .i64 d]] w fun e w' => e = .returned (.tuple #[.agg #[.int .i64 (itvRel 4 a b c d).l0, .int .i64 (itvRel 4 a b c d).h0], .agg #[.int .i64 (itvRel 4 a b c d).l1, .int .i64 (itvRel 4 a b c d).h1], .bool (itvRel 4 a b c d).ok]) ∧ Below w.heap.size w w' := by
  go_enter Try.func73, Try.ntmps73
  go_wp2_with fail
  refine (itvRelS _ _ _ _ _ _).mono ?_
  rintro e w1 ⟨rfl, hB⟩
  have H1 := HeldL.next hB (held4 _ _ _ _ _ _ _ _ _ _)
  have c30 : w1.cell? ⟨w.heap.size + 1 + 1 + 1, 0, none⟩ = some (.int .i64 (0)) := H1.cell (e := (w.heap.size + 1 + 1 + 1, [.int .i64 (0), .int .i64 (0)])) (by simp) (i := 0) rfl
  have c31 : w1.cell? ⟨w.heap.size + 1 + 1 + 1, 1, none⟩ = some (.int .i64 (0)) := H1.cell (e := (w.heap.size + 1 + 1 + 1, [.int .i64 (0), .int .i64 (0)])) (by simp) (i := 1) rfl
  have c20 : w1.cell? ⟨w.heap.size + 1 + 1, 0, none⟩ = some (.int .i64 (0)) := H1.cell (e := (w.heap.size + 1 + 1, [.int .i64 (0), .int .i64 (0)])) (by simp) (i := 0) rfl
  have c21 : w1.cell? ⟨w.heap.size + 1 + 1, 1, none⟩ = some (.int .i64 (0)) := H1.cell (e := (w.heap.size + 1 + 1, [.int .i64 (0), .int .i64 (0)])) (by simp) (i := 1) rfl
  have c10 : w1.cell? ⟨w.heap.size + 1, 0, none⟩ = some (.int .i64 (c)) := H1.cell (e := (w.heap.size + 1, [.int .i64 (c), .int .i64 (d)])) (by simp) (i := 0) rfl
  have c11 : w1.cell? ⟨w.heap.size + 1, 1, none⟩ = some (.int .i64 (d)) := H1.cell (e := (w.heap.size + 1, [.int .i64 (c), .int .i64 (d)])) (by simp) (i := 1) rfl
  have c00 : w1.cell? ⟨w.heap.size, 0, none⟩ = some (.int .i64 (a)) := H1.cell (e := (w.heap.size, [.int .i64 (a), .int .i64 (b)])) (by simp) (i := 0) rfl
  have c01 : w1.cell? ⟨w.heap.size, 1, none⟩ = some (.int .i64 (b)) := H1.cell (e := (w.heap.size, [.int .i64 (a), .int .i64 (b)])) (by simp) (i := 1) rfl
  have f3 : ∀ i, w1.frozen? ⟨w.heap.size + 1 + 1 + 1, i, none⟩ = false := H1.free (w.heap.size + 1 + 1 + 1, [.int .i64 (0), .int .i64 (0)]) (by simp)
  have f2 : ∀ i, w1.frozen? ⟨w.heap.size + 1 + 1, i, none⟩ = false := H1.free (w.heap.size + 1 + 1, [.int .i64 (0), .int .i64 (0)]) (by simp)
  clear hB
  go_wp2_with fail
  all_goals (refine bodyPost_ret (v := .tuple #[.agg #[.int .i64 (itvRel 4 a b c d).l0, .int .i64 (itvRel 4 a b c d).h0], .agg #[.int .i64 (itvRel 4 a b c d).l1, .int .i64 (itvRel 4 a b c d).h1], .bool (itvRel 4 a b c d).ok]) (by simp [results, Try.results73, go_sem, cell_set, c20, c21, c30, c31]) rfl ⟨rfl, ?_⟩)
  all_goals repeat (first | exact H1.below | refine Below.drew ?_ | refine Below.setCell ?_ (by simp; try omega) _)

set_option maxRecDepth 10000 in
set_option maxHeartbeats 4000000 in
theorem itvNotS_4 (a b c d : Int) (w : World)  :
    Calls Try.prog 73 #[.int .i64 4, .agg #[.int .i64 a, .int .i64 b], .agg #[.int .i64 c, .int .i64 d]] w fun e w' => e = .returned (.tuple #[.agg #[.int .i64 (itvRel 3 a b c d).l0, .int .i64 (itvRel 3 a b c d).h0], .agg #[.int .i64 (itvRel 3 a b c d).l1, .int .i64 (itvRel 3 a b c d).h1], .bool (itvRel 3 a b c d).ok]) ∧ Below w.heap.size w w' := by
  go_enter Try.func73, Try.ntmps73
  go_wp2_with fail
  refine (itvRelS _ _ _ _ _ _).mono ?_
  rintro e w1 ⟨rfl, hB⟩
  have H1 := HeldL.next hB (held4 _ _ _ _ _ _ _ _ _ _)
  have c30 : w1.cell? ⟨w.heap.size + 1 + 1 + 1, 0, none⟩ = some (.int .i64 (0)) := H1.cell (e := (w.heap.size + 1 + 1 + 1, [.int .i64 (0), .int .i64 (0)])) (by simp) (i := 0) rfl
  have c31 : w1.cell? ⟨w.heap.size + 1 + 1 + 1, 1, none⟩ = some (.int .i64 (0)) := H1.cell (e := (w.heap.size + 1 + 1 + 1, [.int .i64 (0), .int .i64 (0)])) (by simp) (i := 1) rfl
  have c20 : w1.cell? ⟨w.heap.size + 1 + 1, 0, none⟩ = some (.int .i64 (0)) := H1.cell (e := (w.heap.size + 1 + 1, [.int .i64 (0), .int .i64 (0)])) (by simp) (i := 0) rfl
  have c21 : w1.cell? ⟨w.heap.size + 1 + 1, 1, none⟩ = some (.int .i64 (0)) := H1.cell (e := (w.heap.size + 1 + 1, [.int .i64 (0), .int .i64 (0)])) (by simp) (i := 1) rfl
  have c10 : w1.cell? ⟨w.heap.size + 1, 0, none⟩ = some (.int .i64 (c)) := H1.cell (e := (w.heap.size + 1, [.int .i64 (c), .int .i64 (d)])) (by simp) (i := 0) rfl
  have c11 : w1.cell? ⟨w.heap.size + 1, 1, none⟩ = some (.int .i64 (d)) := H1.cell (e := (w.heap.size + 1, [.int .i64 (c), .int .i64 (d)])) (by simp) (i := 1) rfl
  have c00 : w1.cell? ⟨w.heap.size, 0, none⟩ = some (.int .i64 (a)) := H1.cell (e := (w.heap.size, [.int .i64 (a), .int .i64 (b)])) (by simp) (i := 0) rfl
  have c01 : w1.cell? ⟨w.heap.size, 1, none⟩ = some (.int .i64 (b)) := H1.cell (e := (w.heap.size, [.int .i64 (a), .int .i64 (b)])) (by simp) (i := 1) rfl
  have f3 : ∀ i, w1.frozen? ⟨w.heap.size + 1 + 1 + 1, i, none⟩ = false := H1.free (w.heap.size + 1 + 1 + 1, [.int .i64 (0), .int .i64 (0)]) (by simp)
  have f2 : ∀ i, w1.frozen? ⟨w.heap.size + 1 + 1, i, none⟩ = false := H1.free (w.heap.size + 1 + 1, [.int .i64 (0), .int .i64 (0)]) (by simp)
  clear hB
  go_wp2_with fail
  all_goals (refine bodyPost_ret (v := .tuple #[.agg #[.int .i64 (itvRel 3 a b c d).l0, .int .i64 (itvRel 3 a b c d).h0], .agg #[.int .i64 (itvRel 3 a b c d).l1, .int .i64 (itvRel 3 a b c d).h1], .bool (itvRel 3 a b c d).ok]) (by simp [results, Try.results73, go_sem, cell_set, c20, c21, c30, c31]) rfl ⟨rfl, ?_⟩)
  all_goals repeat (first | exact H1.below | refine Below.drew ?_ | refine Below.setCell ?_ (by simp; try omega) _)

set_option maxRecDepth 10000 in
set_option maxHeartbeats 4000000 in
theorem itvNotS_1 (a b c d : Int) (w : World)  :
    Calls Try.prog 73 #[.int .i64 1, .agg #[.int .i64 a, .int .i64 b], .agg #[.int .i64 c, .int .i64 d]] w fun e w' => e = .returned (.tuple #[.agg #[.int .i64 ((itvRel 2 c d a b).swap).l0, .int .i64 ((itvRel 2 c d a b).swap).h0], .agg #[.int .i64 ((itvRel 2 c d a b).swap).l1, .int .i64 ((itvRel 2 c d a b).swap).h1], .bool ((itvRel 2 c d a b).swap).ok]) ∧ Below w.heap.size w w' := by
  go_enter Try.func73, Try.ntmps73
  go_wp2_with fail
  refine (itvRelS _ _ _ _ _ _).mono ?_
  rintro e w1 ⟨rfl, hB⟩
  have H1 := HeldL.next hB (held4 _ _ _ _ _ _ _ _ _ _)
  have c30 : w1.cell? ⟨w.heap.size + 1 + 1 + 1, 0, none⟩ = some (.int .i64 (0)) := H1.cell (e := (w.heap.size + 1 + 1 + 1, [.int .i64 (0), .int .i64 (0)])) (by simp) (i := 0) rfl
  have c31 : w1.cell? ⟨w.heap.size + 1 + 1 + 1, 1, none⟩ = some (.int .i64 (0)) := H1.cell (e := (w.heap.size + 1 + 1 + 1, [.int .i64 (0), .int .i64 (0)])) (by simp) (i := 1) rfl
  have c20 : w1.cell? ⟨w.heap.size + 1 + 1, 0, none⟩ = some (.int .i64 (0)) := H1.cell (e := (w.heap.size + 1 + 1, [.int .i64 (0), .int .i64 (0)])) (by simp) (i := 0) rfl
  have c21 : w1.cell? ⟨w.heap.size + 1 + 1, 1, none⟩ = some (.int .i64 (0)) := H1.cell (e := (w.heap.size + 1 + 1, [.int .i64 (0), .int .i64 (0)])) (by simp) (i := 1) rfl
  have c10 : w1.cell? ⟨w.heap.size + 1, 0, none⟩ = some (.int .i64 (c)) := H1.cell (e := (w.heap.size + 1, [.int .i64 (c), .int .i64 (d)])) (by simp) (i := 0) rfl
  have c11 : w1.cell? ⟨w.heap.size + 1, 1, none⟩ = some (.int .i64 (d)) := H1.cell (e := (w.heap.size + 1, [.int .i64 (c), .int .i64 (d)])) (by simp) (i := 1) rfl
  have c00 : w1.cell? ⟨w.heap.size, 0, none⟩ = some (.int .i64 (a)) := H1.cell (e := (w.heap.size, [.int .i64 (a), .int .i64 (b)])) (by simp) (i := 0) rfl
  have c01 : w1.cell? ⟨w.heap.size, 1, none⟩ = some (.int .i64 (b)) := H1.cell (e := (w.heap.size, [.int .i64 (a), .int .i64 (b)])) (by simp) (i := 1) rfl
  have f3 : ∀ i, w1.frozen? ⟨w.heap.size + 1 + 1 + 1, i, none⟩ = false := H1.free (w.heap.size + 1 + 1 + 1, [.int .i64 (0), .int .i64 (0)]) (by simp)
  have f2 : ∀ i, w1.frozen? ⟨w.heap.size + 1 + 1, i, none⟩ = false := H1.free (w.heap.size + 1 + 1, [.int .i64 (0), .int .i64 (0)]) (by simp)
  clear hB
  go_wp2_with fail
  obtain ⟨g, hg⟩ : ∃ g, g = w1.heap.size := ⟨_, rfl⟩
  have hgz : w.heap.size + 1 + 1 + 1 < g := by rw [hg]; exact H1.size (e := (w.heap.size + 1 + 1 + 1, [.int .i64 0, .int .i64 0])) (by simp)
  have H2 : HeldL w ((g + 1, [Value.int .i64 (itvRel 2 c d a b).l1, .int .i64 (itvRel 2 c d a b).h1]) :: (g, [Value.int .i64 (itvRel 2 c d a b).l0, .int .i64 (itvRel 2 c d a b).h0]) :: [(w.heap.size + 1 + 1 + 1, [Value.int .i64 (0), .int .i64 (0)]), (w.heap.size + 1 + 1, [Value.int .i64 (0), .int .i64 (0)]), (w.heap.size + 1, [Value.int .i64 (c), .int .i64 (d)]), (w.heap.size, [Value.int .i64 (a), .int .i64 (b)])]) ((w1.alloc (.cells #[Value.int .i64 (itvRel 2 c d a b).l0, .int .i64 (itvRel 2 c d a b).h0] 75)).alloc (.cells #[Value.int .i64 (itvRel 2 c d a b).l1, .int .i64 (itvRel 2 c d a b).h1] 75)) := by
    have e : g + 1 = (w1.alloc (.cells #[Value.int .i64 (itvRel 2 c d a b).l0, .int .i64 (itvRel 2 c d a b).h0] 75)).heap.size := by simp [hg]
    rw [e, hg]
    exact HeldL.new (HeldL.new H1)
  generalize (w1.alloc (.cells #[Value.int .i64 (itvRel 2 c d a b).l0, .int .i64 (itvRel 2 c d a b).h0] 75)).alloc (.cells #[Value.int .i64 (itvRel 2 c d a b).l1, .int .i64 (itvRel 2 c d a b).h1] 75) = wX at H2 ⊢
  rw [← hg]
  clear c00 c01 c10 c11 c20 c21 c30 c31 f2 f3 H1 hg
  have c20 : wX.cell? ⟨w.heap.size + 1 + 1, 0, none⟩ = some (.int .i64 0) := H2.cell (e := (w.heap.size + 1 + 1, [.int .i64 0, .int .i64 0])) (List.mem_cons_of_mem _ (List.mem_cons_of_mem _ (by simp))) (i := 0) rfl
  have c21 : wX.cell? ⟨w.heap.size + 1 + 1, 1, none⟩ = some (.int .i64 0) := H2.cell (e := (w.heap.size + 1 + 1, [.int .i64 0, .int .i64 0])) (List.mem_cons_of_mem _ (List.mem_cons_of_mem _ (by simp))) (i := 1) rfl
  have f2 : ∀ i, wX.frozen? ⟨w.heap.size + 1 + 1, i, none⟩ = false := H2.free (w.heap.size + 1 + 1, [.int .i64 0, .int .i64 0]) (List.mem_cons_of_mem _ (List.mem_cons_of_mem _ (by simp)))
  have c30 : wX.cell? ⟨w.heap.size + 1 + 1 + 1, 0, none⟩ = some (.int .i64 0) := H2.cell (e := (w.heap.size + 1 + 1 + 1, [.int .i64 0, .int .i64 0])) (List.mem_cons_of_mem _ (List.mem_cons_of_mem _ (by simp))) (i := 0) rfl
  have c31 : wX.cell? ⟨w.heap.size + 1 + 1 + 1, 1, none⟩ = some (.int .i64 0) := H2.cell (e := (w.heap.size + 1 + 1 + 1, [.int .i64 0, .int .i64 0])) (List.mem_cons_of_mem _ (List.mem_cons_of_mem _ (by simp))) (i := 1) rfl
  have f3 : ∀ i, wX.frozen? ⟨w.heap.size + 1 + 1 + 1, i, none⟩ = false := H2.free (w.heap.size + 1 + 1 + 1, [.int .i64 0, .int .i64 0]) (List.mem_cons_of_mem _ (List.mem_cons_of_mem _ (by simp)))
  have x0 : wX.cell? ⟨g + 1, 0, none⟩ = some (.int .i64 (itvRel 2 c d a b).l1) := H2.cell (e := (g + 1, [Value.int .i64 (itvRel 2 c d a b).l1, .int .i64 (itvRel 2 c d a b).h1])) List.mem_cons_self (i := 0) rfl
  have y0 : wX.cell? ⟨g, 0, none⟩ = some (.int .i64 (itvRel 2 c d a b).l0) := H2.cell (e := (g, [Value.int .i64 (itvRel 2 c d a b).l0, .int .i64 (itvRel 2 c d a b).h0])) (List.mem_cons_of_mem _ List.mem_cons_self) (i := 0) rfl
  have x1 : wX.cell? ⟨g + 1, 1, none⟩ = some (.int .i64 (itvRel 2 c d a b).h1) := H2.cell (e := (g + 1, [Value.int .i64 (itvRel 2 c d a b).l1, .int .i64 (itvRel 2 c d a b).h1])) List.mem_cons_self (i := 1) rfl
  have y1 : wX.cell? ⟨g, 1, none⟩ = some (.int .i64 (itvRel 2 c d a b).h0) := H2.cell (e := (g, [Value.int .i64 (itvRel 2 c d a b).l0, .int .i64 (itvRel 2 c d a b).h0])) (List.mem_cons_of_mem _ List.mem_cons_self) (i := 1) rfl
  have n0 : ¬ g = w.heap.size + 1 := by omega
  have n0' : ¬ w.heap.size + 1 = g := by omega
  have n1 : ¬ g = w.heap.size + 1 + 1 := by omega
  have n1' : ¬ w.heap.size + 1 + 1 = g := by omega
  have n2 : ¬ g = w.heap.size + 1 + 1 + 1 := by omega
  have n2' : ¬ w.heap.size + 1 + 1 + 1 = g := by omega
  go_region
  all_goals (go_wp2_with fail)
  all_goals (refine bodyPost_ret (v := .tuple #[.agg #[.int .i64 (itvRel 2 c d a b).l1, .int .i64 (itvRel 2 c d a b).h1], .agg #[.int .i64 (itvRel 2 c d a b).l0, .int .i64 (itvRel 2 c d a b).h0], .bool (itvRel 2 c d a b).ok]) (by simp [results, Try.results73, go_sem, cell_set, c20, c21, c30, c31]) rfl ⟨rfl, ?_⟩)
  all_goals repeat (first | exact H2.below | refine Below.drew ?_ | refine Below.setCell ?_ (by simp; try omega) _)

set_option maxRecDepth 10000 in
set_option maxHeartbeats 4000000 in
theorem itvNotS_2 (a b c d : Int) (w : World)  :
    Calls Try.prog 73 #[.int .i64 2, .agg #[.int .i64 a, .int .i64 b], .agg #[.int .i64 c, .int .i64 d]] w fun e w' => e = .returned (.tuple #[.agg #[.int .i64 ((itvRel 1 c d a b).swap).l0, .int .i64 ((itvRel 1 c d a b).swap).h0], .agg #[.int .i64 ((itvRel 1 c d a b).swap).l1, .int .i64 ((itvRel 1 c d a b).swap).h1], .bool ((itvRel 1 c d a b).swap).ok]) ∧ Below w.heap.size w w' := by
  go_enter Try.func73, Try.ntmps73
  go_wp2_with fail
  refine (itvRelS _ _ _ _ _ _).mono ?_
  rintro e w1 ⟨rfl, hB⟩
  have H1 := HeldL.next hB (held4 _ _ _ _ _ _ _ _ _ _)
  have c30 : w1.cell? ⟨w.heap.size + 1 + 1 + 1, 0, none⟩ = some (.int .i64 (0)) := H1.cell (e := (w.heap.size + 1 + 1 + 1, [.int .i64 (0), .int .i64 (0)])) (by simp) (i := 0) rfl
  have c31 : w1.cell? ⟨w.heap.size + 1 + 1 + 1, 1, none⟩ = some (.int .i64 (0)) := H1.cell (e := (w.heap.size + 1 + 1 + 1, [.int .i64 (0), .int .i64 (0)])) (by simp) (i := 1) rfl
  have c20 : w1.cell? ⟨w.heap.size + 1 + 1, 0, none⟩ = some (.int .i64 (0)) := H1.cell (e := (w.heap.size + 1 + 1, [.int .i64 (0), .int .i64 (0)])) (by simp) (i := 0) rfl
  have c21 : w1.cell? ⟨w.heap.size + 1 + 1, 1, none⟩ = some (.int .i64 (0)) := H1.cell (e := (w.heap.size + 1 + 1, [.int .i64 (0), .int .i64 (0)])) (by simp) (i := 1) rfl
  have c10 : w1.cell? ⟨w.heap.size + 1, 0, none⟩ = some (.int .i64 (c)) := H1.cell (e := (w.heap.size + 1, [.int .i64 (c), .int .i64 (d)])) (by simp) (i := 0) rfl
  have c11 : w1.cell? ⟨w.heap.size + 1, 1, none⟩ = some (.int .i64 (d)) := H1.cell (e := (w.heap.size + 1, [.int .i64 (c), .int .i64 (d)])) (by simp) (i := 1) rfl
  have c00 : w1.cell? ⟨w.heap.size, 0, none⟩ = some (.int .i64 (a)) := H1.cell (e := (w.heap.size, [.int .i64 (a), .int .i64 (b)])) (by simp) (i := 0) rfl
  have c01 : w1.cell? ⟨w.heap.size, 1, none⟩ = some (.int .i64 (b)) := H1.cell (e := (w.heap.size, [.int .i64 (a), .int .i64 (b)])) (by simp) (i := 1) rfl
  have f3 : ∀ i, w1.frozen? ⟨w.heap.size + 1 + 1 + 1, i, none⟩ = false := H1.free (w.heap.size + 1 + 1 + 1, [.int .i64 (0), .int .i64 (0)]) (by simp)
  have f2 : ∀ i, w1.frozen? ⟨w.heap.size + 1 + 1, i, none⟩ = false := H1.free (w.heap.size + 1 + 1, [.int .i64 (0), .int .i64 (0)]) (by simp)
  clear hB
  go_wp2_with fail
  obtain ⟨g, hg⟩ : ∃ g, g = w1.heap.size := ⟨_, rfl⟩
  have hgz : w.heap.size + 1 + 1 + 1 < g := by rw [hg]; exact H1.size (e := (w.heap.size + 1 + 1 + 1, [.int .i64 0, .int .i64 0])) (by simp)
  have H2 : HeldL w ((g + 1, [Value.int .i64 (itvRel 1 c d a b).l1, .int .i64 (itvRel 1 c d a b).h1]) :: (g, [Value.int .i64 (itvRel 1 c d a b).l0, .int .i64 (itvRel 1 c d a b).h0]) :: [(w.heap.size + 1 + 1 + 1, [Value.int .i64 (0), .int .i64 (0)]), (w.heap.size + 1 + 1, [Value.int .i64 (0), .int .i64 (0)]), (w.heap.size + 1, [Value.int .i64 (c), .int .i64 (d)]), (w.heap.size, [Value.int .i64 (a), .int .i64 (b)])]) ((w1.alloc (.cells #[Value.int .i64 (itvRel 1 c d a b).l0, .int .i64 (itvRel 1 c d a b).h0] 75)).alloc (.cells #[Value.int .i64 (itvRel 1 c d a b).l1, .int .i64 (itvRel 1 c d a b).h1] 75)) := by
    have e : g + 1 = (w1.alloc (.cells #[Value.int .i64 (itvRel 1 c d a b).l0, .int .i64 (itvRel 1 c d a b).h0] 75)).heap.size := by simp [hg]
    rw [e, hg]
    exact HeldL.new (HeldL.new H1)
  generalize (w1.alloc (.cells #[Value.int .i64 (itvRel 1 c d a b).l0, .int .i64 (itvRel 1 c d a b).h0] 75)).alloc (.cells #[Value.int .i64 (itvRel 1 c d a b).l1, .int .i64 (itvRel 1 c d a b).h1] 75) = wX at H2 ⊢
  rw [← hg]
  clear c00 c01 c10 c11 c20 c21 c30 c31 f2 f3 H1 hg
  have c20 : wX.cell? ⟨w.heap.size + 1 + 1, 0, none⟩ = some (.int .i64 0) := H2.cell (e := (w.heap.size + 1 + 1, [.int .i64 0, .int .i64 0])) (List.mem_cons_of_mem _ (List.mem_cons_of_mem _ (by simp))) (i := 0) rfl
  have c21 : wX.cell? ⟨w.heap.size + 1 + 1, 1, none⟩ = some (.int .i64 0) := H2.cell (e := (w.heap.size + 1 + 1, [.int .i64 0, .int .i64 0])) (List.mem_cons_of_mem _ (List.mem_cons_of_mem _ (by simp))) (i := 1) rfl
  have f2 : ∀ i, wX.frozen? ⟨w.heap.size + 1 + 1, i, none⟩ = false := H2.free (w.heap.size + 1 + 1, [.int .i64 0, .int .i64 0]) (List.mem_cons_of_mem _ (List.mem_cons_of_mem _ (by simp)))
  have c30 : wX.cell? ⟨w.heap.size + 1 + 1 + 1, 0, none⟩ = some (.int .i64 0) := H2.cell (e := (w.heap.size + 1 + 1 + 1, [.int .i64 0, .int .i64 0])) (List.mem_cons_of_mem _ (List.mem_cons_of_mem _ (by simp))) (i := 0) rfl
  have c31 : wX.cell? ⟨w.heap.size + 1 + 1 + 1, 1, none⟩ = some (.int .i64 0) := H2.cell (e := (w.heap.size + 1 + 1 + 1, [.int .i64 0, .int .i64 0])) (List.mem_cons_of_mem _ (List.mem_cons_of_mem _ (by simp))) (i := 1) rfl
  have f3 : ∀ i, wX.frozen? ⟨w.heap.size + 1 + 1 + 1, i, none⟩ = false := H2.free (w.heap.size + 1 + 1 + 1, [.int .i64 0, .int .i64 0]) (List.mem_cons_of_mem _ (List.mem_cons_of_mem _ (by simp)))
  have x0 : wX.cell? ⟨g + 1, 0, none⟩ = some (.int .i64 (itvRel 1 c d a b).l1) := H2.cell (e := (g + 1, [Value.int .i64 (itvRel 1 c d a b).l1, .int .i64 (itvRel 1 c d a b).h1])) List.mem_cons_self (i := 0) rfl
  have y0 : wX.cell? ⟨g, 0, none⟩ = some (.int .i64 (itvRel 1 c d a b).l0) := H2.cell (e := (g, [Value.int .i64 (itvRel 1 c d a b).l0, .int .i64 (itvRel 1 c d a b).h0])) (List.mem_cons_of_mem _ List.mem_cons_self) (i := 0) rfl
  have x1 : wX.cell? ⟨g + 1, 1, none⟩ = some (.int .i64 (itvRel 1 c d a b).h1) := H2.cell (e := (g + 1, [Value.int .i64 (itvRel 1 c d a b).l1, .int .i64 (itvRel 1 c d a b).h1])) List.mem_cons_self (i := 1) rfl
  have y1 : wX.cell? ⟨g, 1, none⟩ = some (.int .i64 (itvRel 1 c d a b).h0) := H2.cell (e := (g, [Value.int .i64 (itvRel 1 c d a b).l0, .int .i64 (itvRel 1 c d a b).h0])) (List.mem_cons_of_mem _ List.mem_cons_self) (i := 1) rfl
  have n0 : ¬ g = w.heap.size + 1 := by omega
  have n0' : ¬ w.heap.size + 1 = g := by omega
  have n1 : ¬ g = w.heap.size + 1 + 1 := by omega
  have n1' : ¬ w.heap.size + 1 + 1 = g := by omega
  have n2 : ¬ g = w.heap.size + 1 + 1 + 1 := by omega
  have n2' : ¬ w.heap.size + 1 + 1 + 1 = g := by omega
  go_region
  all_goals (go_wp2_with fail)
  all_goals (refine bodyPost_ret (v := .tuple #[.agg #[.int .i64 (itvRel 1 c d a b).l1, .int .i64 (itvRel 1 c d a b).h1], .agg #[.int .i64 (itvRel 1 c d a b).l0, .int .i64 (itvRel 1 c d a b).h0], .bool (itvRel 1 c d a b).ok]) (by simp [results, Try.results73, go_sem, cell_set, c20, c21, c30, c31]) rfl ⟨rfl, ?_⟩)
  all_goals repeat (first | exact H2.below | refine Below.drew ?_ | refine Below.setCell ?_ (by simp; try omega) _)

theorem itvNotS (rel a b c d : Int) (w : World) :
    Calls Try.prog 73 #[.int .i64 rel, .agg #[.int .i64 a, .int .i64 b], .agg #[.int .i64 c, .int .i64 d]] w fun e w' => e = .returned (.tuple #[.agg #[.int .i64 (itvNot rel a b c d).l0, .int .i64 (itvNot rel a b c d).h0], .agg #[.int .i64 (itvNot rel a b c d).l1, .int .i64 (itvNot rel a b c d).h1], .bool (itvNot rel a b c d).ok]) ∧ Below w.heap.size w w' := by
  by_cases h1 : rel = 1
  · subst h1
    have k : itvNot 1 a b c d = (itvRel 2 c d a b).swap := by simp [itvNot]
    rw [k]; exact itvNotS_1 a b c d w
  by_cases h2 : rel = 2
  · subst h2
    have k : itvNot 2 a b c d = (itvRel 1 c d a b).swap := by simp [itvNot]
    rw [k]; exact itvNotS_2 a b c d w
  by_cases h3 : rel = 3
  · subst h3
    have k : itvNot 3 a b c d = itvRel 4 a b c d := by simp [itvNot]
    rw [k]; exact itvNotS_3 a b c d w
  by_cases h4 : rel = 4
  · subst h4
    have k : itvNot 4 a b c d = itvRel 3 a b c d := by simp [itvNot]
    rw [k]; exact itvNotS_4 a b c d w
  · have k : itvNot rel a b c d = ⟨0, 0, 0, 0, false⟩ := by simp [itvNot, h1, h2, h3, h4, Two.none]
    rw [k]; exact itvNotS_no rel a b c d w h1 h2 h3 h4
end Go.Proofs.Ytdpkbbbfnmneiaa
