/- What of both can differ: the model's (S). -/
import Derived.Test.YtdpkbbbfnmneiaaItvCut
import Derived.WalkKit
import Derived.ProofKit
import Derived.OpenShut
import Derived.Below
import Derived.Deep.RegionHeld3
import Derived.Deep.DeepCutAuto
namespace Go.Proofs.Ytdpkbbbfnmneiaa
open Go.ChangeShapes Go.WideShapes Go.ChangeAt Go.RowKit

set_option maxHeartbeats 4000000 in
theorem otherS_nn (a b c d : Int) (w : World) (h1 : ¬ c = d) (h2 : ¬ a = b) :
    Calls Try.prog 121 #[.agg #[.int .i64 a, .int .i64 b], .agg #[.int .i64 c, .int .i64 d]] w fun e w' => e = .returned (.tuple #[.agg #[.int .i64 a, .int .i64 b], .agg #[.int .i64 c, .int .i64 d], .bool true]) ∧ Below w.heap.size w w' := by
  have g1 : (c == d) = false := by simpa using h1
  have g2 : (a == b) = false := by simpa using h2
  go_enter Try.func121, Try.ntmps121
  go_wp2_with fail
  go_region
  all_goals (go_wp2_with fail)
  refine bodyPost_ret (v := .tuple #[.agg #[.int .i64 a, .int .i64 b], .agg #[.int .i64 c, .int .i64 d], .bool true]) (by simp [results, Try.results121, go_sem]) rfl ⟨rfl, ?_⟩
  repeat (first | exact Below.refl _ _ | refine Below.drew ?_ | refine Below.alloc ?_ (by simp; try omega) _ | refine Below.setCell ?_ (by simp; try omega) _)

set_option maxRecDepth 10000 in
set_option maxRecDepth 10000 in
set_option maxRecDepth 10000 in
set_option maxRecDepth 10000 in
set_option maxRecDepth 10000 in
set_option maxHeartbeats 4000000 in
theorem otherS_yn (a b c : Int) (w : World) (hc : okB c = true) (h2 : ¬ a = b) :
    Calls Try.prog 121 #[.agg #[.int .i64 a, .int .i64 b], .agg #[.int .i64 c, .int .i64 c]] w fun e w' => e = .returned (.tuple #[.agg #[.int .i64 (cutLo a b c), .int .i64 (cutHi a b c)], .agg #[.int .i64 c, .int .i64 c], .bool true]) ∧ Below w.heap.size w w' := by
  have g2 : (a == b) = false := by simpa using h2
  have kt : cutOk a b c = true := by simp [cutOk]; omega
  go_enter Try.func121, Try.ntmps121
  go_wp2_with fail
  refine (cutS _ _ _ _ hc).mono ?_
  rintro e w1 ⟨rfl, hB⟩
  have H := HeldL.next hB (held6 _ _ _ _ _ _ _ _ _ _ _ _ _ _)
  have c50 : w1.cell? ⟨w.heap.size + 1 + 1 + 1 + 1 + 1, 0, none⟩ = some (.int .i64 (c)) := H.cell (e := (w.heap.size + 1 + 1 + 1 + 1 + 1, [.int .i64 (c), .int .i64 (c)])) (by simp) (i := 0) rfl
  have c51 : w1.cell? ⟨w.heap.size + 1 + 1 + 1 + 1 + 1, 1, none⟩ = some (.int .i64 (c)) := H.cell (e := (w.heap.size + 1 + 1 + 1 + 1 + 1, [.int .i64 (c), .int .i64 (c)])) (by simp) (i := 1) rfl
  have c40 : w1.cell? ⟨w.heap.size + 1 + 1 + 1 + 1, 0, none⟩ = some (.int .i64 (a)) := H.cell (e := (w.heap.size + 1 + 1 + 1 + 1, [.int .i64 (a), .int .i64 (b)])) (by simp) (i := 0) rfl
  have c41 : w1.cell? ⟨w.heap.size + 1 + 1 + 1 + 1, 1, none⟩ = some (.int .i64 (b)) := H.cell (e := (w.heap.size + 1 + 1 + 1 + 1, [.int .i64 (a), .int .i64 (b)])) (by simp) (i := 1) rfl
  have c30 : w1.cell? ⟨w.heap.size + 1 + 1 + 1, 0, none⟩ = some (.int .i64 (0)) := H.cell (e := (w.heap.size + 1 + 1 + 1, [.int .i64 (0), .int .i64 (0)])) (by simp) (i := 0) rfl
  have c31 : w1.cell? ⟨w.heap.size + 1 + 1 + 1, 1, none⟩ = some (.int .i64 (0)) := H.cell (e := (w.heap.size + 1 + 1 + 1, [.int .i64 (0), .int .i64 (0)])) (by simp) (i := 1) rfl
  have c20 : w1.cell? ⟨w.heap.size + 1 + 1, 0, none⟩ = some (.int .i64 (0)) := H.cell (e := (w.heap.size + 1 + 1, [.int .i64 (0), .int .i64 (0)])) (by simp) (i := 0) rfl
  have c21 : w1.cell? ⟨w.heap.size + 1 + 1, 1, none⟩ = some (.int .i64 (0)) := H.cell (e := (w.heap.size + 1 + 1, [.int .i64 (0), .int .i64 (0)])) (by simp) (i := 1) rfl
  have c10 : w1.cell? ⟨w.heap.size + 1, 0, none⟩ = some (.int .i64 (c)) := H.cell (e := (w.heap.size + 1, [.int .i64 (c), .int .i64 (c)])) (by simp) (i := 0) rfl
  have c11 : w1.cell? ⟨w.heap.size + 1, 1, none⟩ = some (.int .i64 (c)) := H.cell (e := (w.heap.size + 1, [.int .i64 (c), .int .i64 (c)])) (by simp) (i := 1) rfl
  have c00 : w1.cell? ⟨w.heap.size, 0, none⟩ = some (.int .i64 (a)) := H.cell (e := (w.heap.size, [.int .i64 (a), .int .i64 (b)])) (by simp) (i := 0) rfl
  have c01 : w1.cell? ⟨w.heap.size, 1, none⟩ = some (.int .i64 (b)) := H.cell (e := (w.heap.size, [.int .i64 (a), .int .i64 (b)])) (by simp) (i := 1) rfl
  have f5 : ∀ i, w1.frozen? ⟨w.heap.size + 1 + 1 + 1 + 1 + 1, i, none⟩ = false := H.free (w.heap.size + 1 + 1 + 1 + 1 + 1, [.int .i64 (c), .int .i64 (c)]) (by simp)
  have f4 : ∀ i, w1.frozen? ⟨w.heap.size + 1 + 1 + 1 + 1, i, none⟩ = false := H.free (w.heap.size + 1 + 1 + 1 + 1, [.int .i64 (a), .int .i64 (b)]) (by simp)
  have f3 : ∀ i, w1.frozen? ⟨w.heap.size + 1 + 1 + 1, i, none⟩ = false := H.free (w.heap.size + 1 + 1 + 1, [.int .i64 (0), .int .i64 (0)]) (by simp)
  have f2 : ∀ i, w1.frozen? ⟨w.heap.size + 1 + 1, i, none⟩ = false := H.free (w.heap.size + 1 + 1, [.int .i64 (0), .int .i64 (0)]) (by simp)
  clear hB
  go_wp2_with fail
  have H2 := HeldL.put (x := .int .i64 (cutLo a b c)) (y := .int .i64 (cutHi a b c)) (by omega) (by intro e he; simp at he; rcases he with rfl | rfl | rfl | rfl | rfl <;> (dsimp only; omega)) (H.sub (L' := [(w.heap.size + 1 + 1 + 1 + 1, [Value.int .i64 (a), .int .i64 (b)]), (w.heap.size + 1 + 1 + 1 + 1 + 1, [Value.int .i64 (c), .int .i64 (c)]), (w.heap.size + 1 + 1 + 1, [Value.int .i64 (0), .int .i64 (0)]), (w.heap.size + 1 + 1, [Value.int .i64 (0), .int .i64 (0)]), (w.heap.size + 1, [Value.int .i64 (c), .int .i64 (c)]), (w.heap.size, [Value.int .i64 (a), .int .i64 (b)])]) (fun e he => by simp at he ⊢; rcases he with h | h | h | h | h | h <;> simp [h]))
  generalize (w1.setCell ⟨w.heap.size + 1 + 1 + 1 + 1, 0, none⟩ (.int .i64 (cutLo a b c))).setCell ⟨w.heap.size + 1 + 1 + 1 + 1, 1, none⟩ (.int .i64 (cutHi a b c)) = wX at H2 ⊢
  clear c00 c01 c10 c11 c20 c21 c30 c31 c40 c41 c50 c51 f2 f3 f4 f5
  have c40 : wX.cell? ⟨w.heap.size + 1 + 1 + 1 + 1, 0, none⟩ = some (.int .i64 (cutLo a b c)) := H2.cell (e := (w.heap.size + 1 + 1 + 1 + 1, [.int .i64 (cutLo a b c), .int .i64 (cutHi a b c)])) (by simp) (i := 0) rfl
  have c41 : wX.cell? ⟨w.heap.size + 1 + 1 + 1 + 1, 1, none⟩ = some (.int .i64 (cutHi a b c)) := H2.cell (e := (w.heap.size + 1 + 1 + 1 + 1, [.int .i64 (cutLo a b c), .int .i64 (cutHi a b c)])) (by simp) (i := 1) rfl
  have c50 : wX.cell? ⟨w.heap.size + 1 + 1 + 1 + 1 + 1, 0, none⟩ = some (.int .i64 (c)) := H2.cell (e := (w.heap.size + 1 + 1 + 1 + 1 + 1, [.int .i64 (c), .int .i64 (c)])) (by simp) (i := 0) rfl
  have c51 : wX.cell? ⟨w.heap.size + 1 + 1 + 1 + 1 + 1, 1, none⟩ = some (.int .i64 (c)) := H2.cell (e := (w.heap.size + 1 + 1 + 1 + 1 + 1, [.int .i64 (c), .int .i64 (c)])) (by simp) (i := 1) rfl
  have c30 : wX.cell? ⟨w.heap.size + 1 + 1 + 1, 0, none⟩ = some (.int .i64 (0)) := H2.cell (e := (w.heap.size + 1 + 1 + 1, [.int .i64 (0), .int .i64 (0)])) (by simp) (i := 0) rfl
  have c31 : wX.cell? ⟨w.heap.size + 1 + 1 + 1, 1, none⟩ = some (.int .i64 (0)) := H2.cell (e := (w.heap.size + 1 + 1 + 1, [.int .i64 (0), .int .i64 (0)])) (by simp) (i := 1) rfl
  have c20 : wX.cell? ⟨w.heap.size + 1 + 1, 0, none⟩ = some (.int .i64 (0)) := H2.cell (e := (w.heap.size + 1 + 1, [.int .i64 (0), .int .i64 (0)])) (by simp) (i := 0) rfl
  have c21 : wX.cell? ⟨w.heap.size + 1 + 1, 1, none⟩ = some (.int .i64 (0)) := H2.cell (e := (w.heap.size + 1 + 1, [.int .i64 (0), .int .i64 (0)])) (by simp) (i := 1) rfl
  have c10 : wX.cell? ⟨w.heap.size + 1, 0, none⟩ = some (.int .i64 (c)) := H2.cell (e := (w.heap.size + 1, [.int .i64 (c), .int .i64 (c)])) (by simp) (i := 0) rfl
  have c11 : wX.cell? ⟨w.heap.size + 1, 1, none⟩ = some (.int .i64 (c)) := H2.cell (e := (w.heap.size + 1, [.int .i64 (c), .int .i64 (c)])) (by simp) (i := 1) rfl
  have c00 : wX.cell? ⟨w.heap.size, 0, none⟩ = some (.int .i64 (a)) := H2.cell (e := (w.heap.size, [.int .i64 (a), .int .i64 (b)])) (by simp) (i := 0) rfl
  have c01 : wX.cell? ⟨w.heap.size, 1, none⟩ = some (.int .i64 (b)) := H2.cell (e := (w.heap.size, [.int .i64 (a), .int .i64 (b)])) (by simp) (i := 1) rfl
  have f4 : ∀ i, wX.frozen? ⟨w.heap.size + 1 + 1 + 1 + 1, i, none⟩ = false := H2.free (w.heap.size + 1 + 1 + 1 + 1, [.int .i64 (cutLo a b c), .int .i64 (cutHi a b c)]) (by simp)
  have f5 : ∀ i, wX.frozen? ⟨w.heap.size + 1 + 1 + 1 + 1 + 1, i, none⟩ = false := H2.free (w.heap.size + 1 + 1 + 1 + 1 + 1, [.int .i64 (c), .int .i64 (c)]) (by simp)
  have f3 : ∀ i, wX.frozen? ⟨w.heap.size + 1 + 1 + 1, i, none⟩ = false := H2.free (w.heap.size + 1 + 1 + 1, [.int .i64 (0), .int .i64 (0)]) (by simp)
  have f2 : ∀ i, wX.frozen? ⟨w.heap.size + 1 + 1, i, none⟩ = false := H2.free (w.heap.size + 1 + 1, [.int .i64 (0), .int .i64 (0)]) (by simp)
  obtain ⟨e20, e21⟩ := own2 c20 c21
  obtain ⟨e30, e31⟩ := own4 (B := w.heap.size + 1 + 1) (by omega) c30 c31
  go_region
  all_goals (go_wp2_with fail)
  all_goals (refine bodyPost_ret (v := .tuple #[.agg #[.int .i64 (cutLo a b c), .int .i64 (cutHi a b c)], .agg #[.int .i64 c, .int .i64 c], .bool true]) (by simp [results, Try.results121, go_sem, e20, e21, e30, e31]) rfl ⟨rfl, ?_⟩)
  all_goals repeat (first | exact H2.below | refine Below.drew ?_ | refine Below.setCell ?_ (by simp; try omega) _)

set_option maxRecDepth 10000 in
set_option maxHeartbeats 4000000 in
theorem otherS_ny (a c d : Int) (w : World) (ha : okB a = true) (h1 : ¬ c = d) :
    Calls Try.prog 121 #[.agg #[.int .i64 a, .int .i64 a], .agg #[.int .i64 c, .int .i64 d]] w fun e w' => e = .returned (.tuple #[.agg #[.int .i64 a, .int .i64 a], .agg #[.int .i64 (cutLo c d a), .int .i64 (cutHi c d a)], .bool true]) ∧ Below w.heap.size w w' := by
  have g1 : (c == d) = false := by simpa using h1
  have kt : cutOk c d a = true := by simp [cutOk]; omega
  go_enter Try.func121, Try.ntmps121
  go_wp2_with fail
  refine (cutS _ _ _ _ ha).mono ?_
  rintro e w1 ⟨rfl, hB⟩
  have H := HeldL.next hB (held6 _ _ _ _ _ _ _ _ _ _ _ _ _ _)
  have c50 : w1.cell? ⟨w.heap.size + 1 + 1 + 1 + 1 + 1, 0, none⟩ = some (.int .i64 (c)) := H.cell (e := (w.heap.size + 1 + 1 + 1 + 1 + 1, [.int .i64 (c), .int .i64 (d)])) (by simp) (i := 0) rfl
  have c51 : w1.cell? ⟨w.heap.size + 1 + 1 + 1 + 1 + 1, 1, none⟩ = some (.int .i64 (d)) := H.cell (e := (w.heap.size + 1 + 1 + 1 + 1 + 1, [.int .i64 (c), .int .i64 (d)])) (by simp) (i := 1) rfl
  have c40 : w1.cell? ⟨w.heap.size + 1 + 1 + 1 + 1, 0, none⟩ = some (.int .i64 (a)) := H.cell (e := (w.heap.size + 1 + 1 + 1 + 1, [.int .i64 (a), .int .i64 (a)])) (by simp) (i := 0) rfl
  have c41 : w1.cell? ⟨w.heap.size + 1 + 1 + 1 + 1, 1, none⟩ = some (.int .i64 (a)) := H.cell (e := (w.heap.size + 1 + 1 + 1 + 1, [.int .i64 (a), .int .i64 (a)])) (by simp) (i := 1) rfl
  have c30 : w1.cell? ⟨w.heap.size + 1 + 1 + 1, 0, none⟩ = some (.int .i64 (0)) := H.cell (e := (w.heap.size + 1 + 1 + 1, [.int .i64 (0), .int .i64 (0)])) (by simp) (i := 0) rfl
  have c31 : w1.cell? ⟨w.heap.size + 1 + 1 + 1, 1, none⟩ = some (.int .i64 (0)) := H.cell (e := (w.heap.size + 1 + 1 + 1, [.int .i64 (0), .int .i64 (0)])) (by simp) (i := 1) rfl
  have c20 : w1.cell? ⟨w.heap.size + 1 + 1, 0, none⟩ = some (.int .i64 (0)) := H.cell (e := (w.heap.size + 1 + 1, [.int .i64 (0), .int .i64 (0)])) (by simp) (i := 0) rfl
  have c21 : w1.cell? ⟨w.heap.size + 1 + 1, 1, none⟩ = some (.int .i64 (0)) := H.cell (e := (w.heap.size + 1 + 1, [.int .i64 (0), .int .i64 (0)])) (by simp) (i := 1) rfl
  have c10 : w1.cell? ⟨w.heap.size + 1, 0, none⟩ = some (.int .i64 (c)) := H.cell (e := (w.heap.size + 1, [.int .i64 (c), .int .i64 (d)])) (by simp) (i := 0) rfl
  have c11 : w1.cell? ⟨w.heap.size + 1, 1, none⟩ = some (.int .i64 (d)) := H.cell (e := (w.heap.size + 1, [.int .i64 (c), .int .i64 (d)])) (by simp) (i := 1) rfl
  have c00 : w1.cell? ⟨w.heap.size, 0, none⟩ = some (.int .i64 (a)) := H.cell (e := (w.heap.size, [.int .i64 (a), .int .i64 (a)])) (by simp) (i := 0) rfl
  have c01 : w1.cell? ⟨w.heap.size, 1, none⟩ = some (.int .i64 (a)) := H.cell (e := (w.heap.size, [.int .i64 (a), .int .i64 (a)])) (by simp) (i := 1) rfl
  have f5 : ∀ i, w1.frozen? ⟨w.heap.size + 1 + 1 + 1 + 1 + 1, i, none⟩ = false := H.free (w.heap.size + 1 + 1 + 1 + 1 + 1, [.int .i64 (c), .int .i64 (d)]) (by simp)
  have f4 : ∀ i, w1.frozen? ⟨w.heap.size + 1 + 1 + 1 + 1, i, none⟩ = false := H.free (w.heap.size + 1 + 1 + 1 + 1, [.int .i64 (a), .int .i64 (a)]) (by simp)
  have f3 : ∀ i, w1.frozen? ⟨w.heap.size + 1 + 1 + 1, i, none⟩ = false := H.free (w.heap.size + 1 + 1 + 1, [.int .i64 (0), .int .i64 (0)]) (by simp)
  have f2 : ∀ i, w1.frozen? ⟨w.heap.size + 1 + 1, i, none⟩ = false := H.free (w.heap.size + 1 + 1, [.int .i64 (0), .int .i64 (0)]) (by simp)
  clear hB
  go_wp2_with fail
  have H2 := HeldL.put (x := .int .i64 (cutLo c d a)) (y := .int .i64 (cutHi c d a)) (by omega) (by intro e he; simp at he; rcases he with rfl | rfl | rfl | rfl | rfl <;> (dsimp only; omega)) (H.sub (L' := [(w.heap.size + 1 + 1 + 1 + 1 + 1, [Value.int .i64 (c), .int .i64 (d)]), (w.heap.size + 1 + 1 + 1 + 1, [Value.int .i64 (a), .int .i64 (a)]), (w.heap.size + 1 + 1 + 1, [Value.int .i64 (0), .int .i64 (0)]), (w.heap.size + 1 + 1, [Value.int .i64 (0), .int .i64 (0)]), (w.heap.size + 1, [Value.int .i64 (c), .int .i64 (d)]), (w.heap.size, [Value.int .i64 (a), .int .i64 (a)])]) (fun e he => by simp at he ⊢; rcases he with h | h | h | h | h | h <;> simp [h]))
  generalize (w1.setCell ⟨w.heap.size + 1 + 1 + 1 + 1 + 1, 0, none⟩ (.int .i64 (cutLo c d a))).setCell ⟨w.heap.size + 1 + 1 + 1 + 1 + 1, 1, none⟩ (.int .i64 (cutHi c d a)) = wX at H2 ⊢
  clear c00 c01 c10 c11 c20 c21 c30 c31 c40 c41 c50 c51 f2 f3 f4 f5
  have c50 : wX.cell? ⟨w.heap.size + 1 + 1 + 1 + 1 + 1, 0, none⟩ = some (.int .i64 (cutLo c d a)) := H2.cell (e := (w.heap.size + 1 + 1 + 1 + 1 + 1, [.int .i64 (cutLo c d a), .int .i64 (cutHi c d a)])) (by simp) (i := 0) rfl
  have c51 : wX.cell? ⟨w.heap.size + 1 + 1 + 1 + 1 + 1, 1, none⟩ = some (.int .i64 (cutHi c d a)) := H2.cell (e := (w.heap.size + 1 + 1 + 1 + 1 + 1, [.int .i64 (cutLo c d a), .int .i64 (cutHi c d a)])) (by simp) (i := 1) rfl
  have c40 : wX.cell? ⟨w.heap.size + 1 + 1 + 1 + 1, 0, none⟩ = some (.int .i64 (a)) := H2.cell (e := (w.heap.size + 1 + 1 + 1 + 1, [.int .i64 (a), .int .i64 (a)])) (by simp) (i := 0) rfl
  have c41 : wX.cell? ⟨w.heap.size + 1 + 1 + 1 + 1, 1, none⟩ = some (.int .i64 (a)) := H2.cell (e := (w.heap.size + 1 + 1 + 1 + 1, [.int .i64 (a), .int .i64 (a)])) (by simp) (i := 1) rfl
  have c30 : wX.cell? ⟨w.heap.size + 1 + 1 + 1, 0, none⟩ = some (.int .i64 (0)) := H2.cell (e := (w.heap.size + 1 + 1 + 1, [.int .i64 (0), .int .i64 (0)])) (by simp) (i := 0) rfl
  have c31 : wX.cell? ⟨w.heap.size + 1 + 1 + 1, 1, none⟩ = some (.int .i64 (0)) := H2.cell (e := (w.heap.size + 1 + 1 + 1, [.int .i64 (0), .int .i64 (0)])) (by simp) (i := 1) rfl
  have c20 : wX.cell? ⟨w.heap.size + 1 + 1, 0, none⟩ = some (.int .i64 (0)) := H2.cell (e := (w.heap.size + 1 + 1, [.int .i64 (0), .int .i64 (0)])) (by simp) (i := 0) rfl
  have c21 : wX.cell? ⟨w.heap.size + 1 + 1, 1, none⟩ = some (.int .i64 (0)) := H2.cell (e := (w.heap.size + 1 + 1, [.int .i64 (0), .int .i64 (0)])) (by simp) (i := 1) rfl
  have c10 : wX.cell? ⟨w.heap.size + 1, 0, none⟩ = some (.int .i64 (c)) := H2.cell (e := (w.heap.size + 1, [.int .i64 (c), .int .i64 (d)])) (by simp) (i := 0) rfl
  have c11 : wX.cell? ⟨w.heap.size + 1, 1, none⟩ = some (.int .i64 (d)) := H2.cell (e := (w.heap.size + 1, [.int .i64 (c), .int .i64 (d)])) (by simp) (i := 1) rfl
  have c00 : wX.cell? ⟨w.heap.size, 0, none⟩ = some (.int .i64 (a)) := H2.cell (e := (w.heap.size, [.int .i64 (a), .int .i64 (a)])) (by simp) (i := 0) rfl
  have c01 : wX.cell? ⟨w.heap.size, 1, none⟩ = some (.int .i64 (a)) := H2.cell (e := (w.heap.size, [.int .i64 (a), .int .i64 (a)])) (by simp) (i := 1) rfl
  have f5 : ∀ i, wX.frozen? ⟨w.heap.size + 1 + 1 + 1 + 1 + 1, i, none⟩ = false := H2.free (w.heap.size + 1 + 1 + 1 + 1 + 1, [.int .i64 (cutLo c d a), .int .i64 (cutHi c d a)]) (by simp)
  have f4 : ∀ i, wX.frozen? ⟨w.heap.size + 1 + 1 + 1 + 1, i, none⟩ = false := H2.free (w.heap.size + 1 + 1 + 1 + 1, [.int .i64 (a), .int .i64 (a)]) (by simp)
  have f3 : ∀ i, wX.frozen? ⟨w.heap.size + 1 + 1 + 1, i, none⟩ = false := H2.free (w.heap.size + 1 + 1 + 1, [.int .i64 (0), .int .i64 (0)]) (by simp)
  have f2 : ∀ i, wX.frozen? ⟨w.heap.size + 1 + 1, i, none⟩ = false := H2.free (w.heap.size + 1 + 1, [.int .i64 (0), .int .i64 (0)]) (by simp)
  obtain ⟨e20, e21⟩ := own2 c20 c21
  obtain ⟨e30, e31⟩ := own4 (B := w.heap.size + 1 + 1) (by omega) c30 c31
  go_region
  all_goals (go_wp2_with fail)
  all_goals (refine bodyPost_ret (v := .tuple #[.agg #[.int .i64 a, .int .i64 a], .agg #[.int .i64 (cutLo c d a), .int .i64 (cutHi c d a)], .bool true]) (by simp [results, Try.results121, go_sem, e20, e21, e30, e31]) rfl ⟨rfl, ?_⟩)
  all_goals repeat (first | exact H2.below | refine Below.drew ?_ | refine Below.setCell ?_ (by simp; try omega) _)

set_option maxRecDepth 10000 in
set_option maxHeartbeats 4000000 in
theorem otherS_yy (a c : Int) (w : World) (ha : okB a = true) (hc : okB c = true) (h1 : ¬ a = c) :
    Calls Try.prog 121 #[.agg #[.int .i64 a, .int .i64 a], .agg #[.int .i64 c, .int .i64 c]] w fun e w' => e = .returned (.tuple #[.agg #[.int .i64 (cutLo a a c), .int .i64 (cutHi a a c)], .agg #[.int .i64 (cutLo c c a), .int .i64 (cutHi c c a)], .bool true]) ∧ Below w.heap.size w w' := by
  have kt : cutOk a a c = true := by simp [cutOk]; omega
  have ku : cutOk c c a = true := by simp [cutOk]; omega
  go_enter Try.func121, Try.ntmps121
  go_wp2_with fail
  refine (cutS _ _ _ _ hc).mono ?_
  rintro e w1 ⟨rfl, hB⟩
  have H := HeldL.next hB (held6 _ _ _ _ _ _ _ _ _ _ _ _ _ _)
  have c50 : w1.cell? ⟨w.heap.size + 1 + 1 + 1 + 1 + 1, 0, none⟩ = some (.int .i64 (c)) := H.cell (e := (w.heap.size + 1 + 1 + 1 + 1 + 1, [.int .i64 (c), .int .i64 (c)])) (by simp) (i := 0) rfl
  have c51 : w1.cell? ⟨w.heap.size + 1 + 1 + 1 + 1 + 1, 1, none⟩ = some (.int .i64 (c)) := H.cell (e := (w.heap.size + 1 + 1 + 1 + 1 + 1, [.int .i64 (c), .int .i64 (c)])) (by simp) (i := 1) rfl
  have c40 : w1.cell? ⟨w.heap.size + 1 + 1 + 1 + 1, 0, none⟩ = some (.int .i64 (a)) := H.cell (e := (w.heap.size + 1 + 1 + 1 + 1, [.int .i64 (a), .int .i64 (a)])) (by simp) (i := 0) rfl
  have c41 : w1.cell? ⟨w.heap.size + 1 + 1 + 1 + 1, 1, none⟩ = some (.int .i64 (a)) := H.cell (e := (w.heap.size + 1 + 1 + 1 + 1, [.int .i64 (a), .int .i64 (a)])) (by simp) (i := 1) rfl
  have c30 : w1.cell? ⟨w.heap.size + 1 + 1 + 1, 0, none⟩ = some (.int .i64 (0)) := H.cell (e := (w.heap.size + 1 + 1 + 1, [.int .i64 (0), .int .i64 (0)])) (by simp) (i := 0) rfl
  have c31 : w1.cell? ⟨w.heap.size + 1 + 1 + 1, 1, none⟩ = some (.int .i64 (0)) := H.cell (e := (w.heap.size + 1 + 1 + 1, [.int .i64 (0), .int .i64 (0)])) (by simp) (i := 1) rfl
  have c20 : w1.cell? ⟨w.heap.size + 1 + 1, 0, none⟩ = some (.int .i64 (0)) := H.cell (e := (w.heap.size + 1 + 1, [.int .i64 (0), .int .i64 (0)])) (by simp) (i := 0) rfl
  have c21 : w1.cell? ⟨w.heap.size + 1 + 1, 1, none⟩ = some (.int .i64 (0)) := H.cell (e := (w.heap.size + 1 + 1, [.int .i64 (0), .int .i64 (0)])) (by simp) (i := 1) rfl
  have c10 : w1.cell? ⟨w.heap.size + 1, 0, none⟩ = some (.int .i64 (c)) := H.cell (e := (w.heap.size + 1, [.int .i64 (c), .int .i64 (c)])) (by simp) (i := 0) rfl
  have c11 : w1.cell? ⟨w.heap.size + 1, 1, none⟩ = some (.int .i64 (c)) := H.cell (e := (w.heap.size + 1, [.int .i64 (c), .int .i64 (c)])) (by simp) (i := 1) rfl
  have c00 : w1.cell? ⟨w.heap.size, 0, none⟩ = some (.int .i64 (a)) := H.cell (e := (w.heap.size, [.int .i64 (a), .int .i64 (a)])) (by simp) (i := 0) rfl
  have c01 : w1.cell? ⟨w.heap.size, 1, none⟩ = some (.int .i64 (a)) := H.cell (e := (w.heap.size, [.int .i64 (a), .int .i64 (a)])) (by simp) (i := 1) rfl
  have f5 : ∀ i, w1.frozen? ⟨w.heap.size + 1 + 1 + 1 + 1 + 1, i, none⟩ = false := H.free (w.heap.size + 1 + 1 + 1 + 1 + 1, [.int .i64 (c), .int .i64 (c)]) (by simp)
  have f4 : ∀ i, w1.frozen? ⟨w.heap.size + 1 + 1 + 1 + 1, i, none⟩ = false := H.free (w.heap.size + 1 + 1 + 1 + 1, [.int .i64 (a), .int .i64 (a)]) (by simp)
  have f3 : ∀ i, w1.frozen? ⟨w.heap.size + 1 + 1 + 1, i, none⟩ = false := H.free (w.heap.size + 1 + 1 + 1, [.int .i64 (0), .int .i64 (0)]) (by simp)
  have f2 : ∀ i, w1.frozen? ⟨w.heap.size + 1 + 1, i, none⟩ = false := H.free (w.heap.size + 1 + 1, [.int .i64 (0), .int .i64 (0)]) (by simp)
  clear hB
  go_wp2_with fail
  have H2 := HeldL.put (x := .int .i64 (cutLo a a c)) (y := .int .i64 (cutHi a a c)) (by omega) (by intro e he; simp at he; rcases he with rfl | rfl | rfl | rfl | rfl <;> (dsimp only; omega)) (H.sub (L' := [(w.heap.size + 1 + 1 + 1 + 1, [Value.int .i64 (a), .int .i64 (a)]), (w.heap.size + 1 + 1 + 1 + 1 + 1, [Value.int .i64 (c), .int .i64 (c)]), (w.heap.size + 1 + 1 + 1, [Value.int .i64 (0), .int .i64 (0)]), (w.heap.size + 1 + 1, [Value.int .i64 (0), .int .i64 (0)]), (w.heap.size + 1, [Value.int .i64 (c), .int .i64 (c)]), (w.heap.size, [Value.int .i64 (a), .int .i64 (a)])]) (fun e he => by simp at he ⊢; rcases he with h | h | h | h | h | h <;> simp [h]))
  generalize (w1.setCell ⟨w.heap.size + 1 + 1 + 1 + 1, 0, none⟩ (.int .i64 (cutLo a a c))).setCell ⟨w.heap.size + 1 + 1 + 1 + 1, 1, none⟩ (.int .i64 (cutHi a a c)) = wX at H2 ⊢
  clear c00 c01 c10 c11 c20 c21 c30 c31 c40 c41 c50 c51 f2 f3 f4 f5
  refine (cutS _ _ _ _ ha).mono ?_
  rintro e w2 ⟨rfl, hB⟩
  have H3 := HeldL.next hB H2
  have c40 : w2.cell? ⟨w.heap.size + 1 + 1 + 1 + 1, 0, none⟩ = some (.int .i64 (cutLo a a c)) := H3.cell (e := (w.heap.size + 1 + 1 + 1 + 1, [.int .i64 (cutLo a a c), .int .i64 (cutHi a a c)])) (by simp) (i := 0) rfl
  have c41 : w2.cell? ⟨w.heap.size + 1 + 1 + 1 + 1, 1, none⟩ = some (.int .i64 (cutHi a a c)) := H3.cell (e := (w.heap.size + 1 + 1 + 1 + 1, [.int .i64 (cutLo a a c), .int .i64 (cutHi a a c)])) (by simp) (i := 1) rfl
  have c50 : w2.cell? ⟨w.heap.size + 1 + 1 + 1 + 1 + 1, 0, none⟩ = some (.int .i64 (c)) := H3.cell (e := (w.heap.size + 1 + 1 + 1 + 1 + 1, [.int .i64 (c), .int .i64 (c)])) (by simp) (i := 0) rfl
  have c51 : w2.cell? ⟨w.heap.size + 1 + 1 + 1 + 1 + 1, 1, none⟩ = some (.int .i64 (c)) := H3.cell (e := (w.heap.size + 1 + 1 + 1 + 1 + 1, [.int .i64 (c), .int .i64 (c)])) (by simp) (i := 1) rfl
  have c30 : w2.cell? ⟨w.heap.size + 1 + 1 + 1, 0, none⟩ = some (.int .i64 (0)) := H3.cell (e := (w.heap.size + 1 + 1 + 1, [.int .i64 (0), .int .i64 (0)])) (by simp) (i := 0) rfl
  have c31 : w2.cell? ⟨w.heap.size + 1 + 1 + 1, 1, none⟩ = some (.int .i64 (0)) := H3.cell (e := (w.heap.size + 1 + 1 + 1, [.int .i64 (0), .int .i64 (0)])) (by simp) (i := 1) rfl
  have c20 : w2.cell? ⟨w.heap.size + 1 + 1, 0, none⟩ = some (.int .i64 (0)) := H3.cell (e := (w.heap.size + 1 + 1, [.int .i64 (0), .int .i64 (0)])) (by simp) (i := 0) rfl
  have c21 : w2.cell? ⟨w.heap.size + 1 + 1, 1, none⟩ = some (.int .i64 (0)) := H3.cell (e := (w.heap.size + 1 + 1, [.int .i64 (0), .int .i64 (0)])) (by simp) (i := 1) rfl
  have c10 : w2.cell? ⟨w.heap.size + 1, 0, none⟩ = some (.int .i64 (c)) := H3.cell (e := (w.heap.size + 1, [.int .i64 (c), .int .i64 (c)])) (by simp) (i := 0) rfl
  have c11 : w2.cell? ⟨w.heap.size + 1, 1, none⟩ = some (.int .i64 (c)) := H3.cell (e := (w.heap.size + 1, [.int .i64 (c), .int .i64 (c)])) (by simp) (i := 1) rfl
  have c00 : w2.cell? ⟨w.heap.size, 0, none⟩ = some (.int .i64 (a)) := H3.cell (e := (w.heap.size, [.int .i64 (a), .int .i64 (a)])) (by simp) (i := 0) rfl
  have c01 : w2.cell? ⟨w.heap.size, 1, none⟩ = some (.int .i64 (a)) := H3.cell (e := (w.heap.size, [.int .i64 (a), .int .i64 (a)])) (by simp) (i := 1) rfl
  have f4 : ∀ i, w2.frozen? ⟨w.heap.size + 1 + 1 + 1 + 1, i, none⟩ = false := H3.free (w.heap.size + 1 + 1 + 1 + 1, [.int .i64 (cutLo a a c), .int .i64 (cutHi a a c)]) (by simp)
  have f5 : ∀ i, w2.frozen? ⟨w.heap.size + 1 + 1 + 1 + 1 + 1, i, none⟩ = false := H3.free (w.heap.size + 1 + 1 + 1 + 1 + 1, [.int .i64 (c), .int .i64 (c)]) (by simp)
  have f3 : ∀ i, w2.frozen? ⟨w.heap.size + 1 + 1 + 1, i, none⟩ = false := H3.free (w.heap.size + 1 + 1 + 1, [.int .i64 (0), .int .i64 (0)]) (by simp)
  have f2 : ∀ i, w2.frozen? ⟨w.heap.size + 1 + 1, i, none⟩ = false := H3.free (w.heap.size + 1 + 1, [.int .i64 (0), .int .i64 (0)]) (by simp)
  clear hB
  go_wp2_with fail
  have H4 := HeldL.put (x := .int .i64 (cutLo c c a)) (y := .int .i64 (cutHi c c a)) (by omega) (by intro e he; simp at he; rcases he with rfl | rfl | rfl | rfl | rfl <;> (dsimp only; omega)) (H3.sub (L' := [(w.heap.size + 1 + 1 + 1 + 1 + 1, [Value.int .i64 (c), .int .i64 (c)]), (w.heap.size + 1 + 1 + 1 + 1, [Value.int .i64 (cutLo a a c), .int .i64 (cutHi a a c)]), (w.heap.size + 1 + 1 + 1, [Value.int .i64 (0), .int .i64 (0)]), (w.heap.size + 1 + 1, [Value.int .i64 (0), .int .i64 (0)]), (w.heap.size + 1, [Value.int .i64 (c), .int .i64 (c)]), (w.heap.size, [Value.int .i64 (a), .int .i64 (a)])]) (fun e he => by simp at he ⊢; rcases he with h | h | h | h | h | h <;> simp [h]))
  generalize (w2.setCell ⟨w.heap.size + 1 + 1 + 1 + 1 + 1, 0, none⟩ (.int .i64 (cutLo c c a))).setCell ⟨w.heap.size + 1 + 1 + 1 + 1 + 1, 1, none⟩ (.int .i64 (cutHi c c a)) = wY at H4 ⊢
  clear c00 c01 c10 c11 c20 c21 c30 c31 c40 c41 c50 c51 f2 f3 f4 f5
  have c50 : wY.cell? ⟨w.heap.size + 1 + 1 + 1 + 1 + 1, 0, none⟩ = some (.int .i64 (cutLo c c a)) := H4.cell (e := (w.heap.size + 1 + 1 + 1 + 1 + 1, [.int .i64 (cutLo c c a), .int .i64 (cutHi c c a)])) (by simp) (i := 0) rfl
  have c51 : wY.cell? ⟨w.heap.size + 1 + 1 + 1 + 1 + 1, 1, none⟩ = some (.int .i64 (cutHi c c a)) := H4.cell (e := (w.heap.size + 1 + 1 + 1 + 1 + 1, [.int .i64 (cutLo c c a), .int .i64 (cutHi c c a)])) (by simp) (i := 1) rfl
  have c40 : wY.cell? ⟨w.heap.size + 1 + 1 + 1 + 1, 0, none⟩ = some (.int .i64 (cutLo a a c)) := H4.cell (e := (w.heap.size + 1 + 1 + 1 + 1, [.int .i64 (cutLo a a c), .int .i64 (cutHi a a c)])) (by simp) (i := 0) rfl
  have c41 : wY.cell? ⟨w.heap.size + 1 + 1 + 1 + 1, 1, none⟩ = some (.int .i64 (cutHi a a c)) := H4.cell (e := (w.heap.size + 1 + 1 + 1 + 1, [.int .i64 (cutLo a a c), .int .i64 (cutHi a a c)])) (by simp) (i := 1) rfl
  have c30 : wY.cell? ⟨w.heap.size + 1 + 1 + 1, 0, none⟩ = some (.int .i64 (0)) := H4.cell (e := (w.heap.size + 1 + 1 + 1, [.int .i64 (0), .int .i64 (0)])) (by simp) (i := 0) rfl
  have c31 : wY.cell? ⟨w.heap.size + 1 + 1 + 1, 1, none⟩ = some (.int .i64 (0)) := H4.cell (e := (w.heap.size + 1 + 1 + 1, [.int .i64 (0), .int .i64 (0)])) (by simp) (i := 1) rfl
  have c20 : wY.cell? ⟨w.heap.size + 1 + 1, 0, none⟩ = some (.int .i64 (0)) := H4.cell (e := (w.heap.size + 1 + 1, [.int .i64 (0), .int .i64 (0)])) (by simp) (i := 0) rfl
  have c21 : wY.cell? ⟨w.heap.size + 1 + 1, 1, none⟩ = some (.int .i64 (0)) := H4.cell (e := (w.heap.size + 1 + 1, [.int .i64 (0), .int .i64 (0)])) (by simp) (i := 1) rfl
  have c10 : wY.cell? ⟨w.heap.size + 1, 0, none⟩ = some (.int .i64 (c)) := H4.cell (e := (w.heap.size + 1, [.int .i64 (c), .int .i64 (c)])) (by simp) (i := 0) rfl
  have c11 : wY.cell? ⟨w.heap.size + 1, 1, none⟩ = some (.int .i64 (c)) := H4.cell (e := (w.heap.size + 1, [.int .i64 (c), .int .i64 (c)])) (by simp) (i := 1) rfl
  have c00 : wY.cell? ⟨w.heap.size, 0, none⟩ = some (.int .i64 (a)) := H4.cell (e := (w.heap.size, [.int .i64 (a), .int .i64 (a)])) (by simp) (i := 0) rfl
  have c01 : wY.cell? ⟨w.heap.size, 1, none⟩ = some (.int .i64 (a)) := H4.cell (e := (w.heap.size, [.int .i64 (a), .int .i64 (a)])) (by simp) (i := 1) rfl
  have f5 : ∀ i, wY.frozen? ⟨w.heap.size + 1 + 1 + 1 + 1 + 1, i, none⟩ = false := H4.free (w.heap.size + 1 + 1 + 1 + 1 + 1, [.int .i64 (cutLo c c a), .int .i64 (cutHi c c a)]) (by simp)
  have f4 : ∀ i, wY.frozen? ⟨w.heap.size + 1 + 1 + 1 + 1, i, none⟩ = false := H4.free (w.heap.size + 1 + 1 + 1 + 1, [.int .i64 (cutLo a a c), .int .i64 (cutHi a a c)]) (by simp)
  have f3 : ∀ i, wY.frozen? ⟨w.heap.size + 1 + 1 + 1, i, none⟩ = false := H4.free (w.heap.size + 1 + 1 + 1, [.int .i64 (0), .int .i64 (0)]) (by simp)
  have f2 : ∀ i, wY.frozen? ⟨w.heap.size + 1 + 1, i, none⟩ = false := H4.free (w.heap.size + 1 + 1, [.int .i64 (0), .int .i64 (0)]) (by simp)
  obtain ⟨e20, e21⟩ := own2 c20 c21
  obtain ⟨e30, e31⟩ := own4 (B := w.heap.size + 1 + 1) (by omega) c30 c31
  go_region
  all_goals (go_wp2_with fail)
  all_goals (refine bodyPost_ret (v := .tuple #[.agg #[.int .i64 (cutLo a a c), .int .i64 (cutHi a a c)], .agg #[.int .i64 (cutLo c c a), .int .i64 (cutHi c c a)], .bool true]) (by simp [results, Try.results121, go_sem, e20, e21, e30, e31]) rfl ⟨rfl, ?_⟩)
  all_goals repeat (first | exact H4.below | refine Below.drew ?_ | refine Below.setCell ?_ (by simp; try omega) _)

set_option maxRecDepth 10000 in
set_option maxHeartbeats 4000000 in
theorem otherS_e (a : Int) (w : World) (ha : okB a = true) :
    Calls Try.prog 121 #[.agg #[.int .i64 a, .int .i64 a], .agg #[.int .i64 a, .int .i64 a]] w fun e w' => e = .returned (.tuple #[.agg #[.int .i64 0, .int .i64 0], .agg #[.int .i64 0, .int .i64 0], .bool false]) ∧ Below w.heap.size w w' := by
  have kt : cutOk a a a = false := by simp [cutOk]
  go_enter Try.func121, Try.ntmps121
  go_wp2_with fail
  refine (cutS _ _ _ _ ha).mono ?_
  rintro e w1 ⟨rfl, hB⟩
  have H := HeldL.next hB (held6 _ _ _ _ _ _ _ _ _ _ _ _ _ _)
  have c50 : w1.cell? ⟨w.heap.size + 1 + 1 + 1 + 1 + 1, 0, none⟩ = some (.int .i64 (a)) := H.cell (e := (w.heap.size + 1 + 1 + 1 + 1 + 1, [.int .i64 (a), .int .i64 (a)])) (by simp) (i := 0) rfl
  have c51 : w1.cell? ⟨w.heap.size + 1 + 1 + 1 + 1 + 1, 1, none⟩ = some (.int .i64 (a)) := H.cell (e := (w.heap.size + 1 + 1 + 1 + 1 + 1, [.int .i64 (a), .int .i64 (a)])) (by simp) (i := 1) rfl
  have c40 : w1.cell? ⟨w.heap.size + 1 + 1 + 1 + 1, 0, none⟩ = some (.int .i64 (a)) := H.cell (e := (w.heap.size + 1 + 1 + 1 + 1, [.int .i64 (a), .int .i64 (a)])) (by simp) (i := 0) rfl
  have c41 : w1.cell? ⟨w.heap.size + 1 + 1 + 1 + 1, 1, none⟩ = some (.int .i64 (a)) := H.cell (e := (w.heap.size + 1 + 1 + 1 + 1, [.int .i64 (a), .int .i64 (a)])) (by simp) (i := 1) rfl
  have c30 : w1.cell? ⟨w.heap.size + 1 + 1 + 1, 0, none⟩ = some (.int .i64 (0)) := H.cell (e := (w.heap.size + 1 + 1 + 1, [.int .i64 (0), .int .i64 (0)])) (by simp) (i := 0) rfl
  have c31 : w1.cell? ⟨w.heap.size + 1 + 1 + 1, 1, none⟩ = some (.int .i64 (0)) := H.cell (e := (w.heap.size + 1 + 1 + 1, [.int .i64 (0), .int .i64 (0)])) (by simp) (i := 1) rfl
  have c20 : w1.cell? ⟨w.heap.size + 1 + 1, 0, none⟩ = some (.int .i64 (0)) := H.cell (e := (w.heap.size + 1 + 1, [.int .i64 (0), .int .i64 (0)])) (by simp) (i := 0) rfl
  have c21 : w1.cell? ⟨w.heap.size + 1 + 1, 1, none⟩ = some (.int .i64 (0)) := H.cell (e := (w.heap.size + 1 + 1, [.int .i64 (0), .int .i64 (0)])) (by simp) (i := 1) rfl
  have c10 : w1.cell? ⟨w.heap.size + 1, 0, none⟩ = some (.int .i64 (a)) := H.cell (e := (w.heap.size + 1, [.int .i64 (a), .int .i64 (a)])) (by simp) (i := 0) rfl
  have c11 : w1.cell? ⟨w.heap.size + 1, 1, none⟩ = some (.int .i64 (a)) := H.cell (e := (w.heap.size + 1, [.int .i64 (a), .int .i64 (a)])) (by simp) (i := 1) rfl
  have c00 : w1.cell? ⟨w.heap.size, 0, none⟩ = some (.int .i64 (a)) := H.cell (e := (w.heap.size, [.int .i64 (a), .int .i64 (a)])) (by simp) (i := 0) rfl
  have c01 : w1.cell? ⟨w.heap.size, 1, none⟩ = some (.int .i64 (a)) := H.cell (e := (w.heap.size, [.int .i64 (a), .int .i64 (a)])) (by simp) (i := 1) rfl
  have f5 : ∀ i, w1.frozen? ⟨w.heap.size + 1 + 1 + 1 + 1 + 1, i, none⟩ = false := H.free (w.heap.size + 1 + 1 + 1 + 1 + 1, [.int .i64 (a), .int .i64 (a)]) (by simp)
  have f4 : ∀ i, w1.frozen? ⟨w.heap.size + 1 + 1 + 1 + 1, i, none⟩ = false := H.free (w.heap.size + 1 + 1 + 1 + 1, [.int .i64 (a), .int .i64 (a)]) (by simp)
  have f3 : ∀ i, w1.frozen? ⟨w.heap.size + 1 + 1 + 1, i, none⟩ = false := H.free (w.heap.size + 1 + 1 + 1, [.int .i64 (0), .int .i64 (0)]) (by simp)
  have f2 : ∀ i, w1.frozen? ⟨w.heap.size + 1 + 1, i, none⟩ = false := H.free (w.heap.size + 1 + 1, [.int .i64 (0), .int .i64 (0)]) (by simp)
  clear hB
  go_wp2_with fail
  refine bodyPost_ret (v := .tuple #[.agg #[.int .i64 0, .int .i64 0], .agg #[.int .i64 0, .int .i64 0], .bool false]) (by simp [results, Try.results121, go_sem, cell_set, c20, c21, c30, c31]) rfl ⟨rfl, ?_⟩
  repeat (first | exact H.below | refine Below.drew ?_ | refine Below.setCell ?_ (by simp; try omega) _)
end Go.Proofs.Ytdpkbbbfnmneiaa
