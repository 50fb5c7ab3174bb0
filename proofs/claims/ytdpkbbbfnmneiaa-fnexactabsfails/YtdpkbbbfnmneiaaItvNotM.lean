/- What of both can stand so to the other, in parts: the model's (S). · What of both can differ: the model's (S). · What of both can stand so to the other: the model's (S). · What of both can stand so to the other, the rest: the model's (S). · What of both can stand otherwise to the other: the model's (S). -/
import Derived.Test.YtdpkbbbfnmneiaaItv
import Derived.WalkKit
import Derived.ProofKit
import Derived.OpenShut
import Derived.Below
import Derived.Deep.RegionHeld3
import Derived.Deep.DeepCutAuto
namespace Go.Proofs.Ytdpkbbbfnmneiaa
open Go.ChangeShapes Go.WideShapes Go.ChangeAt Go.RowKit

set_option maxHeartbeats 2000000 in
theorem bothS (a b c d : Int) (w : World) :
    Calls Try.prog 120 #[.agg #[.int .i64 a, .int .i64 b], .agg #[.int .i64 c, .int .i64 d]] w fun e w' => e = .returned (.tuple #[.agg #[.int .i64 (both a b c d).l0, .int .i64 (both a b c d).h0], .agg #[.int .i64 (both a b c d).l1, .int .i64 (both a b c d).h1], .bool (both a b c d).ok]) ∧ Below w.heap.size w w' := by
  by_cases h1 : a ≤ b
  · by_cases h2 : c ≤ d
    · have k : both a b c d = ⟨a, b, c, d, true⟩ := by rw [both, if_pos ⟨h1, h2⟩]
      rw [k]
      clear k
      go_enter Try.func120, Try.ntmps120
      go_wp2_with fail
      go_region
      all_goals (go_wp2_with fail)
      refine bodyPost_ret (v := .tuple #[.agg #[.int .i64 a, .int .i64 b], .agg #[.int .i64 c, .int .i64 d], .bool true]) (by simp [results, Try.results120, go_sem]) rfl ⟨rfl, ?_⟩
      repeat (first | exact Below.refl _ _ | refine Below.drew ?_ | refine Below.alloc ?_ (by simp; try omega) _ | refine Below.setCell ?_ (by simp; try omega) _)
    · have k : both a b c d = ⟨0, 0, 0, 0, false⟩ := by rw [both, if_neg (by omega)]; rfl
      rw [k]
      clear k
      go_enter Try.func120, Try.ntmps120
      go_wp2_with fail
      refine bodyPost_ret (v := .tuple #[.agg #[.int .i64 0, .int .i64 0], .agg #[.int .i64 0, .int .i64 0], .bool false]) (by simp [results, Try.results120, go_sem]) rfl ⟨rfl, ?_⟩
      repeat (first | exact Below.refl _ _ | refine Below.drew ?_ | refine Below.alloc ?_ (by simp; try omega) _ | refine Below.setCell ?_ (by simp; try omega) _)
  · have k : both a b c d = ⟨0, 0, 0, 0, false⟩ := by rw [both, if_neg (by omega)]; rfl
    rw [k]
    clear k
    go_enter Try.func120, Try.ntmps120
    go_wp2_with fail
    refine bodyPost_ret (v := .tuple #[.agg #[.int .i64 0, .int .i64 0], .agg #[.int .i64 0, .int .i64 0], .bool false]) (by simp [results, Try.results120, go_sem]) rfl ⟨rfl, ?_⟩
    repeat (first | exact Below.refl _ _ | refine Below.drew ?_ | refine Below.alloc ?_ (by simp; try omega) _ | refine Below.setCell ?_ (by simp; try omega) _)

set_option maxHeartbeats 2000000 in
theorem cutS (a b n : Int) (w : World) (hn : okB n = true) :
    Calls Try.prog 127 #[.agg #[.int .i64 a, .int .i64 b], .int .i64 n] w fun e w' => e = .returned (.tuple #[.agg #[.int .i64 (cutLo a b n), .int .i64 (cutHi a b n)], .bool (cutOk a b n)]) ∧ Below w.heap.size w w' := by
  have l1 := ok_lo hn
  have l2 := ok_hi hn
  clear hn
  by_cases h1 : a = n
  · by_cases h2 : b = n
    · have g1 : (a == n) = true := by simpa using h1
      have g2 : (b == n) = true := by simpa using h2
      have k1 : cutOk a b n = false := by simp [cutOk, g1, g2]
      have k2 : cutLo a b n = 0 := by simp [cutLo, k1]
      have k3 : cutHi a b n = 0 := by simp [cutHi, k1]
      rw [k1, k2, k3]
      clear k1 k2 k3
      go_enter Try.func127, Try.ntmps127
      go_wp2_with fail
      refine bodyPost_ret (v := .tuple #[.agg #[.int .i64 (0), .int .i64 (0)], .bool false]) (by simp [results, Try.results127, go_sem]) rfl ⟨rfl, ?_⟩
      repeat (first | exact Below.refl _ _ | refine Below.drew ?_ | refine Below.alloc ?_ (by simp; try omega) _ | refine Below.setCell ?_ (by simp; try omega) _)
    · have g1 : (a == n) = true := by simpa using h1
      have g2 : (b == n) = false := by simpa using h2
      have k1 : cutOk a b n = true := by simp [cutOk, g1, g2]
      have k2 : cutLo a b n = n + 1 := by rw [cutLo, if_pos k1, if_pos h1]
      have k3 : cutHi a b n = b := by rw [cutHi, if_pos k1, if_neg h2]
      rw [k1, k2, k3]
      clear k1 k2 k3
      go_enter Try.func127, Try.ntmps127
      go_wp2_with fail
      refine bodyPost_ret (v := .tuple #[.agg #[.int .i64 (n + 1), .int .i64 (b)], .bool true]) (by simp [results, Try.results127, go_sem]) rfl ⟨rfl, ?_⟩
      repeat (first | exact Below.refl _ _ | refine Below.drew ?_ | refine Below.alloc ?_ (by simp; try omega) _ | refine Below.setCell ?_ (by simp; try omega) _)
  · by_cases h2 : b = n
    · have g1 : (a == n) = false := by simpa using h1
      have g2 : (b == n) = true := by simpa using h2
      have k1 : cutOk a b n = true := by simp [cutOk, g1, g2]
      have k2 : cutLo a b n = a := by rw [cutLo, if_pos k1, if_neg h1]
      have k3 : cutHi a b n = n - 1 := by rw [cutHi, if_pos k1, if_pos h2]
      rw [k1, k2, k3]
      clear k1 k2 k3
      go_enter Try.func127, Try.ntmps127
      go_wp2_with fail
      refine bodyPost_ret (v := .tuple #[.agg #[.int .i64 (a), .int .i64 (n - 1)], .bool true]) (by simp [results, Try.results127, go_sem]) rfl ⟨rfl, ?_⟩
      repeat (first | exact Below.refl _ _ | refine Below.drew ?_ | refine Below.alloc ?_ (by simp; try omega) _ | refine Below.setCell ?_ (by simp; try omega) _)
    · have g1 : (a == n) = false := by simpa using h1
      have g2 : (b == n) = false := by simpa using h2
      have k1 : cutOk a b n = true := by simp [cutOk, g1, g2]
      have k2 : cutLo a b n = a := by rw [cutLo, if_pos k1, if_neg h1]
      have k3 : cutHi a b n = b := by rw [cutHi, if_pos k1, if_neg h2]
      rw [k1, k2, k3]
      clear k1 k2 k3
      go_enter Try.func127, Try.ntmps127
      go_wp2_with fail
      refine bodyPost_ret (v := .tuple #[.agg #[.int .i64 (a), .int .i64 (b)], .bool true]) (by simp [results, Try.results127, go_sem]) rfl ⟨rfl, ?_⟩
      repeat (first | exact Below.refl _ _ | refine Below.drew ?_ | refine Below.alloc ?_ (by simp; try omega) _ | refine Below.setCell ?_ (by simp; try omega) _)
end Go.Proofs.Ytdpkbbbfnmneiaa
namespace Go.Proofs.Ytdpkbbbfnmneiaa
open Go.ChangeShapes Go.WideShapes Go.ChangeAt Go.RowKit

set_option maxHeartbeats 4000000 in
theorem otherS_nn (a b c d : Int) (w : World) (h1 : ¬ c = d) (h2 : ¬ a = b) :
    Calls Try.prog 121 #[.agg #[.int .i64 a, .int .i64 b], .agg #[.int .i64 c, .int .i64 d]] w fun e w' => e = .returned (.tuple #[.agg #[.int .i64 a, .int .i64 b], .agg #[.int .i64 c, .int .i64 d], .bool true]) ∧ Below w.heap.size w w' := by
  have g1 : (c == d) = false := by simpa using h1
  have g2 : (a == b) = false := by simpa using h2
  go_enter Try.func121, Try.ntmps121
  go_wp2_with fail
  go_region
  all_goals (go_wp2_with fail)
  refine bodyPost_ret (v := .tuple #[.agg #[.int .i64 a, .int .i64 b], .agg #[.int .i64 c, .int .i64 d], .bool true]) (by simp [results, Try.results121, go_sem]) rfl ⟨rfl, ?_⟩
  repeat (first | exact Below.refl _ _ | refine Below.drew ?_ | refine Below.alloc ?_ (by simp; try omega) _ | refine Below.setCell ?_ (by simp; try omega) _)

set_option maxRecDepth 10000 in
set_option maxRecDepth 10000 in
set_option maxRecDepth 10000 in
set_option maxRecDepth 10000 in
set_option maxRecDepth 10000 in
set_option maxHeartbeats 4000000 in
theorem otherS_yn (a b c : Int) (w : World) (hc : okB c = true) (h2 : ¬ a = b) :
    Calls Try.prog 121 #[.agg #[.int .i64 a, .int .i64 b], .agg #[.int .i64 c, .int .i64 c]] w fun e w' => e = .returned (.tuple #[.agg #[.int .i64 (cutLo a b c), .int .i64 (cutHi a b c)], .agg #[.int .i64 c, .int .i64 c], .bool true]) ∧ Below w.heap.size w w' := by
  have g2 : (a == b) = false := by simpa using h2
  have kt : cutOk a b c = true := by simp [cutOk]; omega
  go_enter Try.func121, Try.ntmps121
  go_wp2_with fail
  refine (cutS _ _ _ _ hc).mono ?_
  rintro e w1 ⟨rfl, hB⟩
  have H := HeldL.next hB (held6 _ _ _ _ _ _ _ _ _ _ _ _ _ _)
  have c50 : w1.cell? ⟨w.heap.size + 1 + 1 + 1 + 1 + 1, 0, none⟩ = some (.int .i64 (c)) := H.cell (e := (w.heap.size + 1 + 1 + 1 + 1 + 1, [.int .i64 (c), .int .i64 (c)])) (by simp) (i := 0) rfl
  have c51 : w1.cell? ⟨w.heap.size + 1 + 1 + 1 + 1 + 1, 1, none⟩ = some (.int .i64 (c)) := H.cell (e := (w.heap.size + 1 + 1 + 1 + 1 + 1, [.int .i64 (c), .int .i64 (c)])) (by simp) (i := 1) rfl
  have c40 : w1.cell? ⟨w.heap.size + 1 + 1 + 1 + 1, 0, none⟩ = some (.int .i64 (a)) := H.cell (e := (w.heap.size + 1 + 1 + 1 + 1, [.int .i64 (a), .int .i64 (b)])) (by simp) (i := 0) rfl
  have c41 : w1.cell? ⟨w.heap.size + 1 + 1 + 1 + 1, 1, none⟩ = some (.int .i64 (b)) := H.cell (e := (w.heap.size + 1 + 1 + 1 + 1, [.int .i64 (a), .int .i64 (b)])) (by simp) (i := 1) rfl
  have c30 : w1.cell? ⟨w.heap.size + 1 + 1 + 1, 0, none⟩ = some (.int .i64 (0)) := H.cell (e := (w.heap.size + 1 + 1 + 1, [.int .i64 (0), .int .i64 (0)])) (by simp) (i := 0) rfl
  have c31 : w1.cell? ⟨w.heap.size + 1 + 1 + 1, 1, none⟩ = some (.int .i64 (0)) := H.cell (e := (w.heap.size + 1 + 1 + 1, [.int .i64 (0), .int .i64 (0)])) (by simp) (i := 1) rfl
  have c20 : w1.cell? ⟨w.heap.size + 1 + 1, 0, none⟩ = some (.int .i64 (0)) := H.cell (e := (w.heap.size + 1 + 1, [.int .i64 (0), .int .i64 (0)])) (by simp) (i := 0) rfl
  have c21 : w1.cell? ⟨w.heap.size + 1 + 1, 1, none⟩ = some (.int .i64 (0)) := H.cell (e := (w.heap.size + 1 + 1, [.int .i64 (0), .int .i64 (0)])) (by simp) (i := 1) rfl
  have c10 : w1.cell? ⟨w.heap.size + 1, 0, none⟩ = some (.int .i64 (c)) := H.cell (e := (w.heap.size + 1, [.int .i64 (c), .int .i64 (c)])) (by simp) (i := 0) rfl
  have c11 : w1.cell? ⟨w.heap.size + 1, 1, none⟩ = some (.int .i64 (c)) := H.cell (e := (w.heap.size + 1, [.int .i64 (c), .int .i64 (c)])) (by simp) (i := 1) rfl
  have c00 : w1.cell? ⟨w.heap.size, 0, none⟩ = some (.int .i64 (a)) := H.cell (e := (w.heap.size, [.int .i64 (a), .int .i64 (b)])) (by simp) (i := 0) rfl
  have c01 : w1.cell? ⟨w.heap.size, 1, none⟩ = some (.int .i64 (b)) := H.cell (e := (w.heap.size, [.int .i64 (a), .int .i64 (b)])) (by simp) (i := 1) rfl
  have f5 : ∀ i, w1.frozen? ⟨w.heap.size + 1 + 1 + 1 + 1 + 1, i, none⟩ = false := H.free (w.heap.size + 1 + 1 + 1 + 1 + 1, [.int .i64 (c), .int .i64 (c)]) (by simp)
  have f4 : ∀ i, w1.frozen? ⟨w.heap.size + 1 + 1 + 1 + 1, i, none⟩ = false := H.free (w.heap.size + 1 + 1 + 1 + 1, [.int .i64 (a), .int .i64 (b)]) (by simp)
  have f3 : ∀ i, w1.frozen? ⟨w.heap.size + 1 + 1 + 1, i, none⟩ = false := H.free (w.heap.size + 1 + 1 + 1, [.int .i64 (0), .int .i64 (0)]) (by simp)
  have f2 : ∀ i, w1.frozen? ⟨w.heap.size + 1 + 1, i, none⟩ = false := H.free (w.heap.size + 1 + 1, [.int .i64 (0), .int .i64 (0)]) (by simp)
  clear hB
  go_wp2_with fail
  have H2 := HeldL.put (x := .int .i64 (cutLo a b c)) (y := .int .i64 (cutHi a b c)) (by omega) (by intro e he; simp at he; rcases he with rfl | rfl | rfl | rfl | rfl <;> (dsimp only; omega)) (H.sub (L' := [(w.heap.size + 1 + 1 + 1 + 1, [Value.int .i64 (a), .int .i64 (b)]), (w.heap.size + 1 + 1 + 1 + 1 + 1, [Value.int .i64 (c), .int .i64 (c)]), (w.heap.size + 1 + 1 + 1, [Value.int .i64 (0), .int .i64 (0)]), (w.heap.size + 1 + 1, [Value.int .i64 (0), .int .i64 (0)]), (w.heap.size + 1, [Value.int .i64 (c), .int .i64 (c)]), (w.heap.size, [Value.int .i64 (a), .int .i64 (b)])]) (fun e he => by simp at he ⊢; rcases he with h | h | h | h | h | h <;> simp [h]))
  generalize (w1.setCell ⟨w.heap.size + 1 + 1 + 1 + 1, 0, none⟩ (.int .i64 (cutLo a b c))).setCell ⟨w.heap.size + 1 + 1 + 1 + 1, 1, none⟩ (.int .i64 (cutHi a b c)) = wX at H2 ⊢
  clear c00 c01 c10 c11 c20 c21 c30 c31 c40 c41 c50 c51 f2 f3 f4 f5
  have c40 : wX.cell? ⟨w.heap.size + 1 + 1 + 1 + 1, 0, none⟩ = some (.int .i64 (cutLo a b c)) := H2.cell (e := (w.heap.size + 1 + 1 + 1 + 1, [.int .i64 (cutLo a b c), .int .i64 (cutHi a b c)])) (by simp) (i := 0) rfl
  have c41 : wX.cell? ⟨w.heap.size + 1 + 1 + 1 + 1, 1, none⟩ = some (.int .i64 (cutHi a b c)) := H2.cell (e := (w.heap.size + 1 + 1 + 1 + 1, [.int .i64 (cutLo a b c), .int .i64 (cutHi a b c)])) (by simp) (i := 1) rfl
  have c50 : wX.cell? ⟨w.heap.size + 1 + 1 + 1 + 1 + 1, 0, none⟩ = some (.int .i64 (c)) := H2.cell (e := (w.heap.size + 1 + 1 + 1 + 1 + 1, [.int .i64 (c), .int .i64 (c)])) (by simp) (i := 0) rfl
  have c51 : wX.cell? ⟨w.heap.size + 1 + 1 + 1 + 1 + 1, 1, none⟩ = some (.int .i64 (c)) := H2.cell (e := (w.heap.size + 1 + 1 + 1 + 1 + 1, [.int .i64 (c), .int .i64 (c)])) (by simp) (i := 1) rfl
  have c30 : wX.cell? ⟨w.heap.size + 1 + 1 + 1, 0, none⟩ = some (.int .i64 (0)) := H2.cell (e := (w.heap.size + 1 + 1 + 1, [.int .i64 (0), .int .i64 (0)])) (by simp) (i := 0) rfl
  have c31 : wX.cell? ⟨w.heap.size + 1 + 1 + 1, 1, none⟩ = some (.int .i64 (0)) := H2.cell (e := (w.heap.size + 1 + 1 + 1, [.int .i64 (0), .int .i64 (0)])) (by simp) (i := 1) rfl
  have c20 : wX.cell? ⟨w.heap.size + 1 + 1, 0, none⟩ = some (.int .i64 (0)) := H2.cell (e := (w.heap.size + 1 + 1, [.int .i64 (0), .int .i64 (0)])) (by simp) (i := 0) rfl
  have c21 : wX.cell? ⟨w.heap.size + 1 + 1, 1, none⟩ = some (.int .i64 (0)) := H2.cell (e := (w.heap.size + 1 + 1, [.int .i64 (0), .int .i64 (0)])) (by simp) (i := 1) rfl
  have c10 : wX.cell? ⟨w.heap.size + 1, 0, none⟩ = some (.int .i64 (c)) := H2.cell (e := (w.heap.size + 1, [.int .i64 (c), .int .i64 (c)])) (by simp) (i := 0) rfl
  have c11 : wX.cell? ⟨w.heap.size + 1, 1, none⟩ = some (.int .i64 (c)) := H2.cell (e := (w.heap.size + 1, [.int .i64 (c), .int .i64 (c)])) (by simp) (i := 1) rfl
  have c00 : wX.cell? ⟨w.heap.size, 0, none⟩ = some (.int .i64 (a)) := H2.cell (e := (w.heap.size, [.int .i64 (a), .int .i64 (b)])) (by simp) (i := 0) rfl
  have c01 : wX.cell? ⟨w.heap.size, 1, none⟩ = some (.int .i64 (b)) := H2.cell (e := (w.heap.size, [.int .i64 (a), .int .i64 (b)])) (by simp) (i := 1) rfl
  have f4 : ∀ i, wX.frozen? ⟨w.heap.size + 1 + 1 + 1 + 1, i, none⟩ = false := H2.free (w.heap.size + 1 + 1 + 1 + 1, [.int .i64 (cutLo a b c), .int .i64 (cutHi a b c)]) (by simp)
  have f5 : ∀ i, wX.frozen? ⟨w.heap.size + 1 + 1 + 1 + 1 + 1, i, none⟩ = false := H2.free (w.heap.size + 1 + 1 + 1 + 1 + 1, [.int .i64 (c), .int .i64 (c)]) (by simp)
  have f3 : ∀ i, wX.frozen? ⟨w.heap.size + 1 + 1 + 1, i, none⟩ = false := H2.free (w.heap.size + 1 + 1 + 1, [.int .i64 (0), .int .i64 (0)]) (by simp)
  have f2 : ∀ i, wX.frozen? ⟨w.heap.size + 1 + 1, i, none⟩ = false := H2.free (w.heap.size + 1 + 1, [.int .i64 (0), .int .i64 (0)]) (by simp)
  obtain ⟨e20, e21⟩ := own2 c20 c21
  obtain ⟨e30, e31⟩ := own4 (B := w.heap.size + 1 + 1) (by omega) c30 c31
  go_region
  all_goals (go_wp2_with fail)
  all_goals (refine bodyPost_ret (v := .tuple #[.agg #[.int .i64 (cutLo a b c), .int .i64 (cutHi a b c)], .agg #[.int .i64 c, .int .i64 c], .bool true]) (by simp [results, Try.results121, go_sem, e20, e21, e30, e31]) rfl ⟨rfl, ?_⟩)
  all_goals repeat (first | exact H2.below | refine Below.drew ?_ | refine Below.setCell ?_ (by simp; try omega) _)

set_option maxRecDepth 10000 in
set_option maxHeartbeats 4000000 in
theorem otherS_ny (a c d : Int) (w : World) (ha : okB a = true) (h1 : ¬ c = d) :
    Calls Try.prog 121 #[.agg #[.int .i64 a, .int .i64 a], .agg #[.int .i64 c, .int .i64 d]] w fun e w' => e = .returned (.tuple #[.agg #[.int .i64 a, .int .i64 a], .agg #[.int .i64 (cutLo c d a), .int .i64 (cutHi c d a)], .bool true]) ∧ Below w.heap.size w w' := by
  have g1 : (c == d) = false := by simpa using h1
  have kt : cutOk c d a = true := by simp [cutOk]; omega
  go_enter Try.func121, Try.ntmps121
  go_wp2_with fail
  refine (cutS _ _ _ _ ha).mono ?_
  rintro e w1 ⟨rfl, hB⟩
  have H := HeldL.next hB (held6 _ _ _ _ _ _ _ _ _ _ _ _ _ _)
  have c50 : w1.cell? ⟨w.heap.size + 1 + 1 + 1 + 1 + 1, 0, none⟩ = some (.int .i64 (c)) := H.cell (e := (w.heap.size + 1 + 1 + 1 + 1 + 1, [.int .i64 (c), .int .i64 (d)])) (by simp) (i := 0) rfl
  have c51 : w1.cell? ⟨w.heap.size + 1 + 1 + 1 + 1 + 1, 1, none⟩ = some (.int .i64 (d)) := H.cell (e := (w.heap.size + 1 + 1 + 1 + 1 + 1, [.int .i64 (c), .int .i64 (d)])) (by simp) (i := 1) rfl
  have c40 : w1.cell? ⟨w.heap.size + 1 + 1 + 1 + 1, 0, none⟩ = some (.int .i64 (a)) := H.cell (e := (w.heap.size + 1 + 1 + 1 + 1, [.int .i64 (a), .int .i64 (a)])) (by simp) (i := 0) rfl
  have c41 : w1.cell? ⟨w.heap.size + 1 + 1 + 1 + 1, 1, none⟩ = some (.int .i64 (a)) := H.cell (e := (w.heap.size + 1 + 1 + 1 + 1, [.int .i64 (a), .int .i64 (a)])) (by simp) (i := 1) rfl
  have c30 : w1.cell? ⟨w.heap.size + 1 + 1 + 1, 0, none⟩ = some (.int .i64 (0)) := H.cell (e := (w.heap.size + 1 + 1 + 1, [.int .i64 (0), .int .i64 (0)])) (by simp) (i := 0) rfl
  have c31 : w1.cell? ⟨w.heap.size + 1 + 1 + 1, 1, none⟩ = some (.int .i64 (0)) := H.cell (e := (w.heap.size + 1 + 1 + 1, [.int .i64 (0), .int .i64 (0)])) (by simp) (i := 1) rfl
  have c20 : w1.cell? ⟨w.heap.size + 1 + 1, 0, none⟩ = some (.int .i64 (0)) := H.cell (e := (w.heap.size + 1 + 1, [.int .i64 (0), .int .i64 (0)])) (by simp) (i := 0) rfl
  have c21 : w1.cell? ⟨w.heap.size + 1 + 1, 1, none⟩ = some (.int .i64 (0)) := H.cell (e := (w.heap.size + 1 + 1, [.int .i64 (0), .int .i64 (0)])) (by simp) (i := 1) rfl
  have c10 : w1.cell? ⟨w.heap.size + 1, 0, none⟩ = some (.int .i64 (c)) := H.cell (e := (w.heap.size + 1, [.int .i64 (c), .int .i64 (d)])) (by simp) (i := 0) rfl
  have c11 : w1.cell? ⟨w.heap.size + 1, 1, none⟩ = some (.int .i64 (d)) := H.cell (e := (w.heap.size + 1, [.int .i64 (c), .int .i64 (d)])) (by simp) (i := 1) rfl
  have c00 : w1.cell? ⟨w.heap.size, 0, none⟩ = some (.int .i64 (a)) := H.cell (e := (w.heap.size, [.int .i64 (a), .int .i64 (a)])) (by simp) (i := 0) rfl
  have c01 : w1.cell? ⟨w.heap.size, 1, none⟩ = some (.int .i64 (a)) := H.cell (e := (w.heap.size, [.int .i64 (a), .int .i64 (a)])) (by simp) (i := 1) rfl
  have f5 : ∀ i, w1.frozen? ⟨w.heap.size + 1 + 1 + 1 + 1 + 1, i, none⟩ = false := H.free (w.heap.size + 1 + 1 + 1 + 1 + 1, [.int .i64 (c), .int .i64 (d)]) (by simp)
  have f4 : ∀ i, w1.frozen? ⟨w.heap.size + 1 + 1 + 1 + 1, i, none⟩ = false := H.free (w.heap.size + 1 + 1 + 1 + 1, [.int .i64 (a), .int .i64 (a)]) (by simp)
  have f3 : ∀ i, w1.frozen? ⟨w.heap.size + 1 + 1 + 1, i, none⟩ = false := H.free (w.heap.size + 1 + 1 + 1, [.int .i64 (0), .int .i64 (0)]) (by simp)
  have f2 : ∀ i, w1.frozen? ⟨w.heap.size + 1 + 1, i, none⟩ = false := H.free (w.heap.size + 1 + 1, [.int .i64 (0), .int .i64 (0)]) (by simp)
  clear hB
  go_wp2_with fail
  have H2 := HeldL.put (x := .int .i64 (cutLo c d a)) (y := .int .i64 (cutHi c d a)) (by omega) (by intro e he; simp at he; rcases he with rfl | rfl | rfl | rfl | rfl <;> (dsimp only; omega)) (H.sub (L' := [(w.heap.size + 1 + 1 + 1 + 1 + 1, [Value.int .i64 (c), .int .i64 (d)]), (w.heap.size + 1 + 1 + 1 + 1, [Value.int .i64 (a), .int .i64 (a)]), (w.heap.size + 1 + 1 + 1, [Value.int .i64 (0), .int .i64 (0)]), (w.heap.size + 1 + 1, [Value.int .i64 (0), .int .i64 (0)]), (w.heap.size + 1, [Value.int .i64 (c), .int .i64 (d)]), (w.heap.size, [Value.int .i64 (a), .int .i64 (a)])]) (fun e he => by simp at he ⊢; rcases he with h | h | h | h | h | h <;> simp [h]))
  generalize (w1.setCell ⟨w.heap.size + 1 + 1 + 1 + 1 + 1, 0, none⟩ (.int .i64 (cutLo c d a))).setCell ⟨w.heap.size + 1 + 1 + 1 + 1 + 1, 1, none⟩ (.int .i64 (cutHi c d a)) = wX at H2 ⊢
  clear c00 c01 c10 c11 c20 c21 c30 c31 c40 c41 c50 c51 f2 f3 f4 f5
  have c50 : wX.cell? ⟨w.heap.size + 1 + 1 + 1 + 1 + 1, 0, none⟩ = some (.int .i64 (cutLo c d a)) := H2.cell (e := (w.heap.size + 1 + 1 + 1 + 1 + 1, [.int .i64 (cutLo c d a), .int .i64 (cutHi c d a)])) (by simp) (i := 0) rfl
  have c51 : wX.cell? ⟨w.heap.size + 1 + 1 + 1 + 1 + 1, 1, none⟩ = some (.int .i64 (cutHi c d a)) := H2.cell (e := (w.heap.size + 1 + 1 + 1 + 1 + 1, [.int .i64 (cutLo c d a), .int .i64 (cutHi c d a)])) (by simp) (i := 1) rfl
  have c40 : wX.cell? ⟨w.heap.size + 1 + 1 + 1 + 1, 0, none⟩ = some (.int .i64 (a)) := H2.cell (e := (w.heap.size + 1 + 1 + 1 + 1, [.int .i64 (a), .int .i64 (a)])) (by simp) (i := 0) rfl
  have c41 : wX.cell? ⟨w.heap.size + 1 + 1 + 1 + 1, 1, none⟩ = some (.int .i64 (a)) := H2.cell (e := (w.heap.size + 1 + 1 + 1 + 1, [.int .i64 (a), .int .i64 (a)])) (by simp) (i := 1) rfl
  have c30 : wX.cell? ⟨w.heap.size + 1 + 1 + 1, 0, none⟩ = some (.int .i64 (0)) := H2.cell (e := (w.heap.size + 1 + 1 + 1, [.int .i64 (0), .int .i64 (0)])) (by simp) (i := 0) rfl
  have c31 : wX.cell? ⟨w.heap.size + 1 + 1 + 1, 1, none⟩ = some (.int .i64 (0)) := H2.cell (e := (w.heap.size + 1 + 1 + 1, [.int .i64 (0), .int .i64 (0)])) (by simp) (i := 1) rfl
  have c20 : wX.cell? ⟨w.heap.size + 1 + 1, 0, none⟩ = some (.int .i64 (0)) := H2.cell (e := (w.heap.size + 1 + 1, [.int .i64 (0), .int .i64 (0)])) (by simp) (i := 0) rfl
  have c21 : wX.cell? ⟨w.heap.size + 1 + 1, 1, none⟩ = some (.int .i64 (0)) := H2.cell (e := (w.heap.size + 1 + 1, [.int .i64 (0), .int .i64 (0)])) (by simp) (i := 1) rfl
  have c10 : wX.cell? ⟨w.heap.size + 1, 0, none⟩ = some (.int .i64 (c)) := H2.cell (e := (w.heap.size + 1, [.int .i64 (c), .int .i64 (d)])) (by simp) (i := 0) rfl
  have c11 : wX.cell? ⟨w.heap.size + 1, 1, none⟩ = some (.int .i64 (d)) := H2.cell (e := (w.heap.size + 1, [.int .i64 (c), .int .i64 (d)])) (by simp) (i := 1) rfl
  have c00 : wX.cell? ⟨w.heap.size, 0, none⟩ = some (.int .i64 (a)) := H2.cell (e := (w.heap.size, [.int .i64 (a), .int .i64 (a)])) (by simp) (i := 0) rfl
  have c01 : wX.cell? ⟨w.heap.size, 1, none⟩ = some (.int .i64 (a)) := H2.cell (e := (w.heap.size, [.int .i64 (a), .int .i64 (a)])) (by simp) (i := 1) rfl
  have f5 : ∀ i, wX.frozen? ⟨w.heap.size + 1 + 1 + 1 + 1 + 1, i, none⟩ = false := H2.free (w.heap.size + 1 + 1 + 1 + 1 + 1, [.int .i64 (cutLo c d a), .int .i64 (cutHi c d a)]) (by simp)
  have f4 : ∀ i, wX.frozen? ⟨w.heap.size + 1 + 1 + 1 + 1, i, none⟩ = false := H2.free (w.heap.size + 1 + 1 + 1 + 1, [.int .i64 (a), .int .i64 (a)]) (by simp)
  have f3 : ∀ i, wX.frozen? ⟨w.heap.size + 1 + 1 + 1, i, none⟩ = false := H2.free (w.heap.size + 1 + 1 + 1, [.int .i64 (0), .int .i64 (0)]) (by simp)
  have f2 : ∀ i, wX.frozen? ⟨w.heap.size + 1 + 1, i, none⟩ = false := H2.free (w.heap.size + 1 + 1, [.int .i64 (0), .int .i64 (0)]) (by simp)
  obtain ⟨e20, e21⟩ := own2 c20 c21
  obtain ⟨e30, e31⟩ := own4 (B := w.heap.size + 1 + 1) (by omega) c30 c31
  go_region
  all_goals (go_wp2_with fail)
  all_goals (refine bodyPost_ret (v := .tuple #[.agg #[.int .i64 a, .int .i64 a], .agg #[.int .i64 (cutLo c d a), .int .i64 (cutHi c d a)], .bool true]) (by simp [results, Try.results121, go_sem, e20, e21, e30, e31]) rfl ⟨rfl, ?_⟩)
  all_goals repeat (first | exact H2.below | refine Below.drew ?_ | refine Below.setCell ?_ (by simp; try omega) _)

set_option maxRecDepth 10000 in
set_option maxHeartbeats 4000000 in
theorem otherS_yy (a c : Int) (w : World) (ha : okB a = true) (hc : okB c = true) (h1 : ¬ a = c) :
    Calls Try.prog 121 #[.agg #[.int .i64 a, .int .i64 a], .agg #[.int .i64 c, .int .i64 c]] w fun e w' => e = .returned (.tuple #[.agg #[.int .i64 (cutLo a a c), .int .i64 (cutHi a a c)], .agg #[.int .i64 (cutLo c c a), .int .i64 (cutHi c c a)], .bool true]) ∧ Below w.heap.size w w' := by
  have kt : cutOk a a c = true := by simp [cutOk]; omega
  have ku : cutOk c c a = true := by simp [cutOk]; omega
  go_enter Try.func121, Try.ntmps121
  go_wp2_with fail
  refine (cutS _ _ _ _ hc).mono ?_
  rintro e w1 ⟨rfl, hB⟩
  have H := HeldL.next hB (held6 _ _ _ _ _ _ _ _ _ _ _ _ _ _)
  have c50 : w1.cell? ⟨w.heap.size + 1 + 1 + 1 + 1 + 1, 0, none⟩ = some (.int .i64 (c)) := H.cell (e := (w.heap.size + 1 + 1 + 1 + 1 + 1, [.int .i64 (c), .int .i64 (c)])) (by simp) (i := 0) rfl
  have c51 : w1.cell? ⟨w.heap.size + 1 + 1 + 1 + 1 + 1, 1, none⟩ = some (.int .i64 (c)) := H.cell (e := (w.heap.size + 1 + 1 + 1 + 1 + 1, [.int .i64 (c), .int .i64 (c)])) (by simp) (i := 1) rfl
  have c40 : w1.cell? ⟨w.heap.size + 1 + 1 + 1 + 1, 0, none⟩ = some (.int .i64 (a)) := H.cell (e := (w.heap.size + 1 + 1 + 1 + 1, [.int .i64 (a), .int .i64 (a)])) (by simp) (i := 0) rfl
  have c41 : w1.cell? ⟨w.heap.size + 1 + 1 + 1 + 1, 1, none⟩ = some (.int .i64 (a)) := H.cell (e := (w.heap.size + 1 + 1 + 1 + 1, [.int .i64 (a), .int .i64 (a)])) (by simp) (i := 1) rfl
  have c30 : w1.cell? ⟨w.heap.size + 1 + 1 + 1, 0, none⟩ = some (.int .i64 (0)) := H.cell (e := (w.heap.size + 1 + 1 + 1, [.int .i64 (0), .int .i64 (0)])) (by simp) (i := 0) rfl
  have c31 : w1.cell? ⟨w.heap.size + 1 + 1 + 1, 1, none⟩ = some (.int .i64 (0)) := H.cell (e := (w.heap.size + 1 + 1 + 1, [.int .i64 (0), .int .i64 (0)])) (by simp) (i := 1) rfl
  have c20 : w1.cell? ⟨w.heap.size + 1 + 1, 0, none⟩ = some (.int .i64 (0)) := H.cell (e := (w.heap.size + 1 + 1, [.int .i64 (0), .int .i64 (0)])) (by simp) (i := 0) rfl
  have c21 : w1.cell? ⟨w.heap.size + 1 + 1, 1, none⟩ = some (.int .i64 (0)) := H.cell (e := (w.heap.size + 1 + 1, [.int .i64 (0), .int .i64 (0)])) (by simp) (i := 1) rfl
  have c10 : w1.cell? ⟨w.heap.size + 1, 0, none⟩ = some (.int .i64 (c)) := H.cell (e := (w.heap.size + 1, [.int .i64 (c), .int .i64 (c)])) (by simp) (i := 0) rfl
  have c11 : w1.cell? ⟨w.heap.size + 1, 1, none⟩ = some (.int .i64 (c)) := H.cell (e := (w.heap.size + 1, [.int .i64 (c), .int .i64 (c)])) (by simp) (i := 1) rfl
  have c00 : w1.cell? ⟨w.heap.size, 0, none⟩ = some (.int .i64 (a)) := H.cell (e := (w.heap.size, [.int .i64 (a), .int .i64 (a)])) (by simp) (i := 0) rfl
  have c01 : w1.cell? ⟨w.heap.size, 1, none⟩ = some (.int .i64 (a)) := H.cell (e := (w.heap.size, [.int .i64 (a), .int .i64 (a)])) (by simp) (i := 1) rfl
  have f5 : ∀ i, w1.frozen? ⟨w.heap.size + 1 + 1 + 1 + 1 + 1, i, none⟩ = false := H.free (w.heap.size + 1 + 1 + 1 + 1 + 1, [.int .i64 (c), .int .i64 (c)]) (by simp)
  have f4 : ∀ i, w1.frozen? ⟨w.heap.size + 1 + 1 + 1 + 1, i, none⟩ = false := H.free (w.heap.size + 1 + 1 + 1 + 1, [.int .i64 (a), .int .i64 (a)]) (by simp)
  have f3 : ∀ i, w1.frozen? ⟨w.heap.size + 1 + 1 + 1, i, none⟩ = false := H.free (w.heap.size + 1 + 1 + 1, [.int .i64 (0), .int .i64 (0)]) (by simp)
  have f2 : ∀ i, w1.frozen? ⟨w.heap.size + 1 + 1, i, none⟩ = false := H.free (w.heap.size + 1 + 1, [.int .i64 (0), .int .i64 (0)]) (by simp)
  clear hB
  go_wp2_with fail
  have H2 := HeldL.put (x := .int .i64 (cutLo a a c)) (y := .int .i64 (cutHi a a c)) (by omega) (by intro e he; simp at he; rcases he with rfl | rfl | rfl | rfl | rfl <;> (dsimp only; omega)) (H.sub (L' := [(w.heap.size + 1 + 1 + 1 + 1, [Value.int .i64 (a), .int .i64 (a)]), (w.heap.size + 1 + 1 + 1 + 1 + 1, [Value.int .i64 (c), .int .i64 (c)]), (w.heap.size + 1 + 1 + 1, [Value.int .i64 (0), .int .i64 (0)]), (w.heap.size + 1 + 1, [Value.int .i64 (0), .int .i64 (0)]), (w.heap.size + 1, [Value.int .i64 (c), .int .i64 (c)]), (w.heap.size, [Value.int .i64 (a), .int .i64 (a)])]) (fun e he => by simp at he ⊢; rcases he with h | h | h | h | h | h <;> simp [h]))
  generalize (w1.setCell ⟨w.heap.size + 1 + 1 + 1 + 1, 0, none⟩ (.int .i64 (cutLo a a c))).setCell ⟨w.heap.size + 1 + 1 + 1 + 1, 1, none⟩ (.int .i64 (cutHi a a c)) = wX at H2 ⊢
  clear c00 c01 c10 c11 c20 c21 c30 c31 c40 c41 c50 c51 f2 f3 f4 f5
  refine (cutS _ _ _ _ ha).mono ?_
  rintro e w2 ⟨rfl, hB⟩
  have H3 := HeldL.next hB H2
  have c40 : w2.cell? ⟨w.heap.size + 1 + 1 + 1 + 1, 0, none⟩ = some (.int .i64 (cutLo a a c)) := H3.cell (e := (w.heap.size + 1 + 1 + 1 + 1, [.int .i64 (cutLo a a c), .int .i64 (cutHi a a c)])) (by simp) (i := 0) rfl
  have c41 : w2.cell? ⟨w.heap.size + 1 + 1 + 1 + 1, 1, none⟩ = some (.int .i64 (cutHi a a c)) := H3.cell (e := (w.heap.size + 1 + 1 + 1 + 1, [.int .i64 (cutLo a a c), .int .i64 (cutHi a a c)])) (by simp) (i := 1) rfl
  have c50 : w2.cell? ⟨w.heap.size + 1 + 1 + 1 + 1 + 1, 0, none⟩ = some (.int .i64 (c)) := H3.cell (e := (w.heap.size + 1 + 1 + 1 + 1 + 1, [.int .i64 (c), .int .i64 (c)])) (by simp) (i := 0) rfl
  have c51 : w2.cell? ⟨w.heap.size + 1 + 1 + 1 + 1 + 1, 1, none⟩ = some (.int .i64 (c)) := H3.cell (e := (w.heap.size + 1 + 1 + 1 + 1 + 1, [.int .i64 (c), .int .i64 (c)])) (by simp) (i := 1) rfl
  have c30 : w2.cell? ⟨w.heap.size + 1 + 1 + 1, 0, none⟩ = some (.int .i64 (0)) := H3.cell (e := (w.heap.size + 1 + 1 + 1, [.int .i64 (0), .int .i64 (0)])) (by simp) (i := 0) rfl
  have c31 : w2.cell? ⟨w.heap.size + 1 + 1 + 1, 1, none⟩ = some (.int .i64 (0)) := H3.cell (e := (w.heap.size + 1 + 1 + 1, [.int .i64 (0), .int .i64 (0)])) (by simp) (i := 1) rfl
  have c20 : w2.cell? ⟨w.heap.size + 1 + 1, 0, none⟩ = some (.int .i64 (0)) := H3.cell (e := (w.heap.size + 1 + 1, [.int .i64 (0), .int .i64 (0)])) (by simp) (i := 0) rfl
  have c21 : w2.cell? ⟨w.heap.size + 1 + 1, 1, none⟩ = some (.int .i64 (0)) := H3.cell (e := (w.heap.size + 1 + 1, [.int .i64 (0), .int .i64 (0)])) (by simp) (i := 1) rfl
  have c10 : w2.cell? ⟨w.heap.size + 1, 0, none⟩ = some (.int .i64 (c)) := H3.cell (e := (w.heap.size + 1, [.int .i64 (c), .int .i64 (c)])) (by simp) (i := 0) rfl
  have c11 : w2.cell? ⟨w.heap.size + 1, 1, none⟩ = some (.int .i64 (c)) := H3.cell (e := (w.heap.size + 1, [.int .i64 (c), .int .i64 (c)])) (by simp) (i := 1) rfl
  have c00 : w2.cell? ⟨w.heap.size, 0, none⟩ = some (.int .i64 (a)) := H3.cell (e := (w.heap.size, [.int .i64 (a), .int .i64 (a)])) (by simp) (i := 0) rfl
  have c01 : w2.cell? ⟨w.heap.size, 1, none⟩ = some (.int .i64 (a)) := H3.cell (e := (w.heap.size, [.int .i64 (a), .int .i64 (a)])) (by simp) (i := 1) rfl
  have f4 : ∀ i, w2.frozen? ⟨w.heap.size + 1 + 1 + 1 + 1, i, none⟩ = false := H3.free (w.heap.size + 1 + 1 + 1 + 1, [.int .i64 (cutLo a a c), .int .i64 (cutHi a a c)]) (by simp)
  have f5 : ∀ i, w2.frozen? ⟨w.heap.size + 1 + 1 + 1 + 1 + 1, i, none⟩ = false := H3.free (w.heap.size + 1 + 1 + 1 + 1 + 1, [.int .i64 (c), .int .i64 (c)]) (by simp)
  have f3 : ∀ i, w2.frozen? ⟨w.heap.size + 1 + 1 + 1, i, none⟩ = false := H3.free (w.heap.size + 1 + 1 + 1, [.int .i64 (0), .int .i64 (0)]) (by simp)
  have f2 : ∀ i, w2.frozen? ⟨w.heap.size + 1 + 1, i, none⟩ = false := H3.free (w.heap.size + 1 + 1, [.int .i64 (0), .int .i64 (0)]) (by simp)
  clear hB
  go_wp2_with fail
  have H4 := HeldL.put (x := .int .i64 (cutLo c c a)) (y := .int .i64 (cutHi c c a)) (by omega) (by intro e he; simp at he; rcases he with rfl | rfl | rfl | rfl | rfl <;> (dsimp only; omega)) (H3.sub (L' := [(w.heap.size + 1 + 1 + 1 + 1 + 1, [Value.int .i64 (c), .int .i64 (c)]), (w.heap.size + 1 + 1 + 1 + 1, [Value.int .i64 (cutLo a a c), .int .i64 (cutHi a a c)]), (w.heap.size + 1 + 1 + 1, [Value.int .i64 (0), .int .i64 (0)]), (w.heap.size + 1 + 1, [Value.int .i64 (0), .int .i64 (0)]), (w.heap.size + 1, [Value.int .i64 (c), .int .i64 (c)]), (w.heap.size, [Value.int .i64 (a), .int .i64 (a)])]) (fun e he => by simp at he ⊢; rcases he with h | h | h | h | h | h <;> simp [h]))
  generalize (w2.setCell ⟨w.heap.size + 1 + 1 + 1 + 1 + 1, 0, none⟩ (.int .i64 (cutLo c c a))).setCell ⟨w.heap.size + 1 + 1 + 1 + 1 + 1, 1, none⟩ (.int .i64 (cutHi c c a)) = wY at H4 ⊢
  clear c00 c01 c10 c11 c20 c21 c30 c31 c40 c41 c50 c51 f2 f3 f4 f5
  have c50 : wY.cell? ⟨w.heap.size + 1 + 1 + 1 + 1 + 1, 0, none⟩ = some (.int .i64 (cutLo c c a)) := H4.cell (e := (w.heap.size + 1 + 1 + 1 + 1 + 1, [.int .i64 (cutLo c c a), .int .i64 (cutHi c c a)])) (by simp) (i := 0) rfl
  have c51 : wY.cell? ⟨w.heap.size + 1 + 1 + 1 + 1 + 1, 1, none⟩ = some (.int .i64 (cutHi c c a)) := H4.cell (e := (w.heap.size + 1 + 1 + 1 + 1 + 1, [.int .i64 (cutLo c c a), .int .i64 (cutHi c c a)])) (by simp) (i := 1) rfl
  have c40 : wY.cell? ⟨w.heap.size + 1 + 1 + 1 + 1, 0, none⟩ = some (.int .i64 (cutLo a a c)) := H4.cell (e := (w.heap.size + 1 + 1 + 1 + 1, [.int .i64 (cutLo a a c), .int .i64 (cutHi a a c)])) (by simp) (i := 0) rfl
  have c41 : wY.cell? ⟨w.heap.size + 1 + 1 + 1 + 1, 1, none⟩ = some (.int .i64 (cutHi a a c)) := H4.cell (e := (w.heap.size + 1 + 1 + 1 + 1, [.int .i64 (cutLo a a c), .int .i64 (cutHi a a c)])) (by simp) (i := 1) rfl
  have c30 : wY.cell? ⟨w.heap.size + 1 + 1 + 1, 0, none⟩ = some (.int .i64 (0)) := H4.cell (e := (w.heap.size + 1 + 1 + 1, [.int .i64 (0), .int .i64 (0)])) (by simp) (i := 0) rfl
  have c31 : wY.cell? ⟨w.heap.size + 1 + 1 + 1, 1, none⟩ = some (.int .i64 (0)) := H4.cell (e := (w.heap.size + 1 + 1 + 1, [.int .i64 (0), .int .i64 (0)])) (by simp) (i := 1) rfl
  have c20 : wY.cell? ⟨w.heap.size + 1 + 1, 0, none⟩ = some (.int .i64 (0)) := H4.cell (e := (w.heap.size + 1 + 1, [.int .i64 (0), .int .i64 (0)])) (by simp) (i := 0) rfl
  have c21 : wY.cell? ⟨w.heap.size + 1 + 1, 1, none⟩ = some (.int .i64 (0)) := H4.cell (e := (w.heap.size + 1 + 1, [.int .i64 (0), .int .i64 (0)])) (by simp) (i := 1) rfl
  have c10 : wY.cell? ⟨w.heap.size + 1, 0, none⟩ = some (.int .i64 (c)) := H4.cell (e := (w.heap.size + 1, [.int .i64 (c), .int .i64 (c)])) (by simp) (i := 0) rfl
  have c11 : wY.cell? ⟨w.heap.size + 1, 1, none⟩ = some (.int .i64 (c)) := H4.cell (e := (w.heap.size + 1, [.int .i64 (c), .int .i64 (c)])) (by simp) (i := 1) rfl
  have c00 : wY.cell? ⟨w.heap.size, 0, none⟩ = some (.int .i64 (a)) := H4.cell (e := (w.heap.size, [.int .i64 (a), .int .i64 (a)])) (by simp) (i := 0) rfl
  have c01 : wY.cell? ⟨w.heap.size, 1, none⟩ = some (.int .i64 (a)) := H4.cell (e := (w.heap.size, [.int .i64 (a), .int .i64 (a)])) (by simp) (i := 1) rfl
  have f5 : ∀ i, wY.frozen? ⟨w.heap.size + 1 + 1 + 1 + 1 + 1, i, none⟩ = false := H4.free (w.heap.size + 1 + 1 + 1 + 1 + 1, [.int .i64 (cutLo c c a), .int .i64 (cutHi c c a)]) (by simp)
  have f4 : ∀ i, wY.frozen? ⟨w.heap.size + 1 + 1 + 1 + 1, i, none⟩ = false := H4.free (w.heap.size + 1 + 1 + 1 + 1, [.int .i64 (cutLo a a c), .int .i64 (cutHi a a c)]) (by simp)
  have f3 : ∀ i, wY.frozen? ⟨w.heap.size + 1 + 1 + 1, i, none⟩ = false := H4.free (w.heap.size + 1 + 1 + 1, [.int .i64 (0), .int .i64 (0)]) (by simp)
  have f2 : ∀ i, wY.frozen? ⟨w.heap.size + 1 + 1, i, none⟩ = false := H4.free (w.heap.size + 1 + 1, [.int .i64 (0), .int .i64 (0)]) (by simp)
  obtain ⟨e20, e21⟩ := own2 c20 c21
  obtain ⟨e30, e31⟩ := own4 (B := w.heap.size + 1 + 1) (by omega) c30 c31
  go_region
  all_goals (go_wp2_with fail)
  all_goals (refine bodyPost_ret (v := .tuple #[.agg #[.int .i64 (cutLo a a c), .int .i64 (cutHi a a c)], .agg #[.int .i64 (cutLo c c a), .int .i64 (cutHi c c a)], .bool true]) (by simp [results, Try.results121, go_sem, e20, e21, e30, e31]) rfl ⟨rfl, ?_⟩)
  all_goals repeat (first | exact H4.below | refine Below.drew ?_ | refine Below.setCell ?_ (by simp; try omega) _)

set_option maxRecDepth 10000 in
set_option maxHeartbeats 4000000 in
theorem otherS_e (a : Int) (w : World) (ha : okB a = true) :
    Calls Try.prog 121 #[.agg #[.int .i64 a, .int .i64 a], .agg #[.int .i64 a, .int .i64 a]] w fun e w' => e = .returned (.tuple #[.agg #[.int .i64 0, .int .i64 0], .agg #[.int .i64 0, .int .i64 0], .bool false]) ∧ Below w.heap.size w w' := by
  have kt : cutOk a a a = false := by simp [cutOk]
  go_enter Try.func121, Try.ntmps121
  go_wp2_with fail
  refine (cutS _ _ _ _ ha).mono ?_
  rintro e w1 ⟨rfl, hB⟩
  have H := HeldL.next hB (held6 _ _ _ _ _ _ _ _ _ _ _ _ _ _)
  have c50 : w1.cell? ⟨w.heap.size + 1 + 1 + 1 + 1 + 1, 0, none⟩ = some (.int .i64 (a)) := H.cell (e := (w.heap.size + 1 + 1 + 1 + 1 + 1, [.int .i64 (a), .int .i64 (a)])) (by simp) (i := 0) rfl
  have c51 : w1.cell? ⟨w.heap.size + 1 + 1 + 1 + 1 + 1, 1, none⟩ = some (.int .i64 (a)) := H.cell (e := (w.heap.size + 1 + 1 + 1 + 1 + 1, [.int .i64 (a), .int .i64 (a)])) (by simp) (i := 1) rfl
  have c40 : w1.cell? ⟨w.heap.size + 1 + 1 + 1 + 1, 0, none⟩ = some (.int .i64 (a)) := H.cell (e := (w.heap.size + 1 + 1 + 1 + 1, [.int .i64 (a), .int .i64 (a)])) (by simp) (i := 0) rfl
  have c41 : w1.cell? ⟨w.heap.size + 1 + 1 + 1 + 1, 1, none⟩ = some (.int .i64 (a)) := H.cell (e := (w.heap.size + 1 + 1 + 1 + 1, [.int .i64 (a), .int .i64 (a)])) (by simp) (i := 1) rfl
  have c30 : w1.cell? ⟨w.heap.size + 1 + 1 + 1, 0, none⟩ = some (.int .i64 (0)) := H.cell (e := (w.heap.size + 1 + 1 + 1, [.int .i64 (0), .int .i64 (0)])) (by simp) (i := 0) rfl
  have c31 : w1.cell? ⟨w.heap.size + 1 + 1 + 1, 1, none⟩ = some (.int .i64 (0)) := H.cell (e := (w.heap.size + 1 + 1 + 1, [.int .i64 (0), .int .i64 (0)])) (by simp) (i := 1) rfl
  have c20 : w1.cell? ⟨w.heap.size + 1 + 1, 0, none⟩ = some (.int .i64 (0)) := H.cell (e := (w.heap.size + 1 + 1, [.int .i64 (0), .int .i64 (0)])) (by simp) (i := 0) rfl
  have c21 : w1.cell? ⟨w.heap.size + 1 + 1, 1, none⟩ = some (.int .i64 (0)) := H.cell (e := (w.heap.size + 1 + 1, [.int .i64 (0), .int .i64 (0)])) (by simp) (i := 1) rfl
  have c10 : w1.cell? ⟨w.heap.size + 1, 0, none⟩ = some (.int .i64 (a)) := H.cell (e := (w.heap.size + 1, [.int .i64 (a), .int .i64 (a)])) (by simp) (i := 0) rfl
  have c11 : w1.cell? ⟨w.heap.size + 1, 1, none⟩ = some (.int .i64 (a)) := H.cell (e := (w.heap.size + 1, [.int .i64 (a), .int .i64 (a)])) (by simp) (i := 1) rfl
  have c00 : w1.cell? ⟨w.heap.size, 0, none⟩ = some (.int .i64 (a)) := H.cell (e := (w.heap.size, [.int .i64 (a), .int .i64 (a)])) (by simp) (i := 0) rfl
  have c01 : w1.cell? ⟨w.heap.size, 1, none⟩ = some (.int .i64 (a)) := H.cell (e := (w.heap.size, [.int .i64 (a), .int .i64 (a)])) (by simp) (i := 1) rfl
  have f5 : ∀ i, w1.frozen? ⟨w.heap.size + 1 + 1 + 1 + 1 + 1, i, none⟩ = false := H.free (w.heap.size + 1 + 1 + 1 + 1 + 1, [.int .i64 (a), .int .i64 (a)]) (by simp)
  have f4 : ∀ i, w1.frozen? ⟨w.heap.size + 1 + 1 + 1 + 1, i, none⟩ = false := H.free (w.heap.size + 1 + 1 + 1 + 1, [.int .i64 (a), .int .i64 (a)]) (by simp)
  have f3 : ∀ i, w1.frozen? ⟨w.heap.size + 1 + 1 + 1, i, none⟩ = false := H.free (w.heap.size + 1 + 1 + 1, [.int .i64 (0), .int .i64 (0)]) (by simp)
  have f2 : ∀ i, w1.frozen? ⟨w.heap.size + 1 + 1, i, none⟩ = false := H.free (w.heap.size + 1 + 1, [.int .i64 (0), .int .i64 (0)]) (by simp)
  clear hB
  go_wp2_with fail
  refine bodyPost_ret (v := .tuple #[.agg #[.int .i64 0, .int .i64 0], .agg #[.int .i64 0, .int .i64 0], .bool false]) (by simp [results, Try.results121, go_sem, cell_set, c20, c21, c30, c31]) rfl ⟨rfl, ?_⟩
  repeat (first | exact H.below | refine Below.drew ?_ | refine Below.setCell ?_ (by simp; try omega) _)
end Go.Proofs.Ytdpkbbbfnmneiaa
namespace Go.Proofs.Ytdpkbbbfnmneiaa
open Go.ChangeShapes Go.WideShapes Go.ChangeAt Go.RowKit

theorem otherS (a b c d : Int) (w : World) (ha : okB a = true) (hc : okB c = true) :
    Calls Try.prog 121 #[.agg #[.int .i64 a, .int .i64 b], .agg #[.int .i64 c, .int .i64 d]] w fun e w' => e = .returned (.tuple #[.agg #[.int .i64 (other a b c d).l0, .int .i64 (other a b c d).h0], .agg #[.int .i64 (other a b c d).l1, .int .i64 (other a b c d).h1], .bool (other a b c d).ok]) ∧ Below w.heap.size w w' := by
  by_cases h1 : c = d
  · subst h1
    by_cases h2 : a = b
    · subst h2
      by_cases h3 : a = c
      · subst h3
        have k : other a a a a = ⟨0, 0, 0, 0, false⟩ := by simp [other, otherOk, otherOk1, cutOk, Two.none]
        rw [k]; exact otherS_e a w ha
      · have k : other a a c c = ⟨cutLo a a c, cutHi a a c, cutLo c c a, cutHi c c a, true⟩ := by
          have : ¬ c = a := fun h => h3 h.symm
          simp [other, otherOk, otherOk1, cutOk, h3, this]
        rw [k]; exact otherS_yy a c w ha hc h3
    · have k : other a b c c = ⟨cutLo a b c, cutHi a b c, c, c, true⟩ := by
        have : cutOk a b c = true := by simp [cutOk]; omega
        simp [other, otherOk, otherOk1, this, h2]
      rw [k]; exact otherS_yn a b c w hc h2
  · by_cases h2 : a = b
    · subst h2
      have k : other a a c d = ⟨a, a, cutLo c d a, cutHi c d a, true⟩ := by
        have : cutOk c d a = true := by simp [cutOk]; omega
        simp [other, otherOk, otherOk1, this, h1]
      rw [k]; exact otherS_ny a c d w ha h1
    · have k : other a b c d = ⟨a, b, c, d, true⟩ := by simp [other, otherOk, otherOk1, h1, h2]
      rw [k]; exact otherS_nn a b c d w h1 h2

set_option maxRecDepth 10000 in
set_option maxHeartbeats 4000000 in
theorem itvRelS_na (rel a b c d : Int) (w : World) (hab : itvOk a b = false) :
    Calls Try.prog 101 #[.int .i64 rel, .agg #[.int .i64 a, .int .i64 b], .agg #[.int .i64 c, .int .i64 d]] w fun e w' => e = .returned (.tuple #[.agg #[.int .i64 0, .int .i64 0], .agg #[.int .i64 0, .int .i64 0], .bool false]) ∧ Below w.heap.size w w' := by
  go_enter Try.func101, Try.ntmps101
  go_wp2_with fail
  refine (itvOkS _ _ _).mono ?_
  rintro e w1 ⟨rfl, hB⟩
  have H1 := HeldL.next hB (held4 _ _ _ _ _ _ _ _ _ _)
  have c30 : w1.cell? ⟨w.heap.size + 1 + 1 + 1, 0, none⟩ = some (.int .i64 (0)) := H1.cell (e := (w.heap.size + 1 + 1 + 1, [.int .i64 (0), .int .i64 (0)])) (by simp) (i := 0) rfl
  have c31 : w1.cell? ⟨w.heap.size + 1 + 1 + 1, 1, none⟩ = some (.int .i64 (0)) := H1.cell (e := (w.heap.size + 1 + 1 + 1, [.int .i64 (0), .int .i64 (0)])) (by simp) (i := 1) rfl
  have c20 : w1.cell? ⟨w.heap.size + 1 + 1, 0, none⟩ = some (.int .i64 (0)) := H1.cell (e := (w.heap.size + 1 + 1, [.int .i64 (0), .int .i64 (0)])) (by simp) (i := 0) rfl
  have c21 : w1.cell? ⟨w.heap.size + 1 + 1, 1, none⟩ = some (.int .i64 (0)) := H1.cell (e := (w.heap.size + 1 + 1, [.int .i64 (0), .int .i64 (0)])) (by simp) (i := 1) rfl
  have c10 : w1.cell? ⟨w.heap.size + 1, 0, none⟩ = some (.int .i64 (c)) := H1.cell (e := (w.heap.size + 1, [.int .i64 (c), .int .i64 (d)])) (by simp) (i := 0) rfl
  have c11 : w1.cell? ⟨w.heap.size + 1, 1, none⟩ = some (.int .i64 (d)) := H1.cell (e := (w.heap.size + 1, [.int .i64 (c), .int .i64 (d)])) (by simp) (i := 1) rfl
  have c00 : w1.cell? ⟨w.heap.size, 0, none⟩ = some (.int .i64 (a)) := H1.cell (e := (w.heap.size, [.int .i64 (a), .int .i64 (b)])) (by simp) (i := 0) rfl
  have c01 : w1.cell? ⟨w.heap.size, 1, none⟩ = some (.int .i64 (b)) := H1.cell (e := (w.heap.size, [.int .i64 (a), .int .i64 (b)])) (by simp) (i := 1) rfl
  have f3 : ∀ i, w1.frozen? ⟨w.heap.size + 1 + 1 + 1, i, none⟩ = false := H1.free (w.heap.size + 1 + 1 + 1, [.int .i64 (0), .int .i64 (0)]) (by simp)
  have f2 : ∀ i, w1.frozen? ⟨w.heap.size + 1 + 1, i, none⟩ = false := H1.free (w.heap.size + 1 + 1, [.int .i64 (0), .int .i64 (0)]) (by simp)
  clear hB
  go_wp2_with fail
  all_goals (refine bodyPost_ret (v := .tuple #[.agg #[.int .i64 0, .int .i64 0], .agg #[.int .i64 0, .int .i64 0], .bool false]) (by simp [results, Try.results101, go_sem, cell_set, c20, c21, c30, c31]) rfl ⟨rfl, ?_⟩)
  all_goals repeat (first | exact H1.below | refine Below.drew ?_ | refine Below.setCell ?_ (by simp; try omega) _)

set_option maxRecDepth 10000 in
set_option maxHeartbeats 4000000 in
theorem itvRelS_nb (rel a b c d : Int) (w : World) (hab : itvOk a b = true) (hcd : itvOk c d = false) :
    Calls Try.prog 101 #[.int .i64 rel, .agg #[.int .i64 a, .int .i64 b], .agg #[.int .i64 c, .int .i64 d]] w fun e w' => e = .returned (.tuple #[.agg #[.int .i64 0, .int .i64 0], .agg #[.int .i64 0, .int .i64 0], .bool false]) ∧ Below w.heap.size w w' := by
  go_enter Try.func101, Try.ntmps101
  go_wp2_with fail
  refine (itvOkS _ _ _).mono ?_
  rintro e w1 ⟨rfl, hB⟩
  have H1 := HeldL.next hB (held4 _ _ _ _ _ _ _ _ _ _)
  have c30 : w1.cell? ⟨w.heap.size + 1 + 1 + 1, 0, none⟩ = some (.int .i64 (0)) := H1.cell (e := (w.heap.size + 1 + 1 + 1, [.int .i64 (0), .int .i64 (0)])) (by simp) (i := 0) rfl
  have c31 : w1.cell? ⟨w.heap.size + 1 + 1 + 1, 1, none⟩ = some (.int .i64 (0)) := H1.cell (e := (w.heap.size + 1 + 1 + 1, [.int .i64 (0), .int .i64 (0)])) (by simp) (i := 1) rfl
  have c20 : w1.cell? ⟨w.heap.size + 1 + 1, 0, none⟩ = some (.int .i64 (0)) := H1.cell (e := (w.heap.size + 1 + 1, [.int .i64 (0), .int .i64 (0)])) (by simp) (i := 0) rfl
  have c21 : w1.cell? ⟨w.heap.size + 1 + 1, 1, none⟩ = some (.int .i64 (0)) := H1.cell (e := (w.heap.size + 1 + 1, [.int .i64 (0), .int .i64 (0)])) (by simp) (i := 1) rfl
  have c10 : w1.cell? ⟨w.heap.size + 1, 0, none⟩ = some (.int .i64 (c)) := H1.cell (e := (w.heap.size + 1, [.int .i64 (c), .int .i64 (d)])) (by simp) (i := 0) rfl
  have c11 : w1.cell? ⟨w.heap.size + 1, 1, none⟩ = some (.int .i64 (d)) := H1.cell (e := (w.heap.size + 1, [.int .i64 (c), .int .i64 (d)])) (by simp) (i := 1) rfl
  have c00 : w1.cell? ⟨w.heap.size, 0, none⟩ = some (.int .i64 (a)) := H1.cell (e := (w.heap.size, [.int .i64 (a), .int .i64 (b)])) (by simp) (i := 0) rfl
  have c01 : w1.cell? ⟨w.heap.size, 1, none⟩ = some (.int .i64 (b)) := H1.cell (e := (w.heap.size, [.int .i64 (a), .int .i64 (b)])) (by simp) (i := 1) rfl
  have f3 : ∀ i, w1.frozen? ⟨w.heap.size + 1 + 1 + 1, i, none⟩ = false := H1.free (w.heap.size + 1 + 1 + 1, [.int .i64 (0), .int .i64 (0)]) (by simp)
  have f2 : ∀ i, w1.frozen? ⟨w.heap.size + 1 + 1, i, none⟩ = false := H1.free (w.heap.size + 1 + 1, [.int .i64 (0), .int .i64 (0)]) (by simp)
  clear hB
  go_wp2_with fail
  refine (itvOkS _ _ _).mono ?_
  rintro e w2 ⟨rfl, hB⟩
  have H2 := HeldL.next hB H1
  clear c00 c01 c10 c11 c20 c21 c30 c31 f2 f3
  have c30 : w2.cell? ⟨w.heap.size + 1 + 1 + 1, 0, none⟩ = some (.int .i64 (0)) := H2.cell (e := (w.heap.size + 1 + 1 + 1, [.int .i64 (0), .int .i64 (0)])) (by simp) (i := 0) rfl
  have c31 : w2.cell? ⟨w.heap.size + 1 + 1 + 1, 1, none⟩ = some (.int .i64 (0)) := H2.cell (e := (w.heap.size + 1 + 1 + 1, [.int .i64 (0), .int .i64 (0)])) (by simp) (i := 1) rfl
  have c20 : w2.cell? ⟨w.heap.size + 1 + 1, 0, none⟩ = some (.int .i64 (0)) := H2.cell (e := (w.heap.size + 1 + 1, [.int .i64 (0), .int .i64 (0)])) (by simp) (i := 0) rfl
  have c21 : w2.cell? ⟨w.heap.size + 1 + 1, 1, none⟩ = some (.int .i64 (0)) := H2.cell (e := (w.heap.size + 1 + 1, [.int .i64 (0), .int .i64 (0)])) (by simp) (i := 1) rfl
  have c10 : w2.cell? ⟨w.heap.size + 1, 0, none⟩ = some (.int .i64 (c)) := H2.cell (e := (w.heap.size + 1, [.int .i64 (c), .int .i64 (d)])) (by simp) (i := 0) rfl
  have c11 : w2.cell? ⟨w.heap.size + 1, 1, none⟩ = some (.int .i64 (d)) := H2.cell (e := (w.heap.size + 1, [.int .i64 (c), .int .i64 (d)])) (by simp) (i := 1) rfl
  have c00 : w2.cell? ⟨w.heap.size, 0, none⟩ = some (.int .i64 (a)) := H2.cell (e := (w.heap.size, [.int .i64 (a), .int .i64 (b)])) (by simp) (i := 0) rfl
  have c01 : w2.cell? ⟨w.heap.size, 1, none⟩ = some (.int .i64 (b)) := H2.cell (e := (w.heap.size, [.int .i64 (a), .int .i64 (b)])) (by simp) (i := 1) rfl
  have f3 : ∀ i, w2.frozen? ⟨w.heap.size + 1 + 1 + 1, i, none⟩ = false := H2.free (w.heap.size + 1 + 1 + 1, [.int .i64 (0), .int .i64 (0)]) (by simp)
  have f2 : ∀ i, w2.frozen? ⟨w.heap.size + 1 + 1, i, none⟩ = false := H2.free (w.heap.size + 1 + 1, [.int .i64 (0), .int .i64 (0)]) (by simp)
  clear hB
  go_wp2_with fail
  all_goals (refine bodyPost_ret (v := .tuple #[.agg #[.int .i64 0, .int .i64 0], .agg #[.int .i64 0, .int .i64 0], .bool false]) (by simp [results, Try.results101, go_sem, cell_set, c20, c21, c30, c31]) rfl ⟨rfl, ?_⟩)
  all_goals repeat (first | exact H2.below | refine Below.drew ?_ | refine Below.setCell ?_ (by simp; try omega) _)

set_option maxRecDepth 10000 in
set_option maxHeartbeats 4000000 in
theorem itvRelS_no (rel a b c d : Int) (w : World) (hab : itvOk a b = true) (hcd : itvOk c d = true) (n1 : rel ≠ 1) (n2 : rel ≠ 2) (n3 : rel ≠ 3) (n4 : rel ≠ 4) :
    Calls Try.prog 101 #[.int .i64 rel, .agg #[.int .i64 a, .int .i64 b], .agg #[.int .i64 c, .int .i64 d]] w fun e w' => e = .returned (.tuple #[.agg #[.int .i64 0, .int .i64 0], .agg #[.int .i64 0, .int .i64 0], .bool false]) ∧ Below w.heap.size w w' := by
  have g1 : (rel == 1) = false := by simpa using n1
  have g2 : (rel == 2) = false := by simpa using n2
  have g3 : (rel == 3) = false := by simpa using n3
  have g4 : (rel == 4) = false := by simpa using n4
  go_enter Try.func101, Try.ntmps101
  go_wp2_with fail
  refine (itvOkS _ _ _).mono ?_
  rintro e w1 ⟨rfl, hB⟩
  have H1 := HeldL.next hB (held4 _ _ _ _ _ _ _ _ _ _)
  have c30 : w1.cell? ⟨w.heap.size + 1 + 1 + 1, 0, none⟩ = some (.int .i64 (0)) := H1.cell (e := (w.heap.size + 1 + 1 + 1, [.int .i64 (0), .int .i64 (0)])) (by simp) (i := 0) rfl
  have c31 : w1.cell? ⟨w.heap.size + 1 + 1 + 1, 1, none⟩ = some (.int .i64 (0)) := H1.cell (e := (w.heap.size + 1 + 1 + 1, [.int .i64 (0), .int .i64 (0)])) (by simp) (i := 1) rfl
  have c20 : w1.cell? ⟨w.heap.size + 1 + 1, 0, none⟩ = some (.int .i64 (0)) := H1.cell (e := (w.heap.size + 1 + 1, [.int .i64 (0), .int .i64 (0)])) (by simp) (i := 0) rfl
  have c21 : w1.cell? ⟨w.heap.size + 1 + 1, 1, none⟩ = some (.int .i64 (0)) := H1.cell (e := (w.heap.size + 1 + 1, [.int .i64 (0), .int .i64 (0)])) (by simp) (i := 1) rfl
  have c10 : w1.cell? ⟨w.heap.size + 1, 0, none⟩ = some (.int .i64 (c)) := H1.cell (e := (w.heap.size + 1, [.int .i64 (c), .int .i64 (d)])) (by simp) (i := 0) rfl
  have c11 : w1.cell? ⟨w.heap.size + 1, 1, none⟩ = some (.int .i64 (d)) := H1.cell (e := (w.heap.size + 1, [.int .i64 (c), .int .i64 (d)])) (by simp) (i := 1) rfl
  have c00 : w1.cell? ⟨w.heap.size, 0, none⟩ = some (.int .i64 (a)) := H1.cell (e := (w.heap.size, [.int .i64 (a), .int .i64 (b)])) (by simp) (i := 0) rfl
  have c01 : w1.cell? ⟨w.heap.size, 1, none⟩ = some (.int .i64 (b)) := H1.cell (e := (w.heap.size, [.int .i64 (a), .int .i64 (b)])) (by simp) (i := 1) rfl
  have f3 : ∀ i, w1.frozen? ⟨w.heap.size + 1 + 1 + 1, i, none⟩ = false := H1.free (w.heap.size + 1 + 1 + 1, [.int .i64 (0), .int .i64 (0)]) (by simp)
  have f2 : ∀ i, w1.frozen? ⟨w.heap.size + 1 + 1, i, none⟩ = false := H1.free (w.heap.size + 1 + 1, [.int .i64 (0), .int .i64 (0)]) (by simp)
  clear hB
  go_wp2_with fail
  refine (itvOkS _ _ _).mono ?_
  rintro e w2 ⟨rfl, hB⟩
  have H2 := HeldL.next hB H1
  clear c00 c01 c10 c11 c20 c21 c30 c31 f2 f3
  have c30 : w2.cell? ⟨w.heap.size + 1 + 1 + 1, 0, none⟩ = some (.int .i64 (0)) := H2.cell (e := (w.heap.size + 1 + 1 + 1, [.int .i64 (0), .int .i64 (0)])) (by simp) (i := 0) rfl
  have c31 : w2.cell? ⟨w.heap.size + 1 + 1 + 1, 1, none⟩ = some (.int .i64 (0)) := H2.cell (e := (w.heap.size + 1 + 1 + 1, [.int .i64 (0), .int .i64 (0)])) (by simp) (i := 1) rfl
  have c20 : w2.cell? ⟨w.heap.size + 1 + 1, 0, none⟩ = some (.int .i64 (0)) := H2.cell (e := (w.heap.size + 1 + 1, [.int .i64 (0), .int .i64 (0)])) (by simp) (i := 0) rfl
  have c21 : w2.cell? ⟨w.heap.size + 1 + 1, 1, none⟩ = some (.int .i64 (0)) := H2.cell (e := (w.heap.size + 1 + 1, [.int .i64 (0), .int .i64 (0)])) (by simp) (i := 1) rfl
  have c10 : w2.cell? ⟨w.heap.size + 1, 0, none⟩ = some (.int .i64 (c)) := H2.cell (e := (w.heap.size + 1, [.int .i64 (c), .int .i64 (d)])) (by simp) (i := 0) rfl
  have c11 : w2.cell? ⟨w.heap.size + 1, 1, none⟩ = some (.int .i64 (d)) := H2.cell (e := (w.heap.size + 1, [.int .i64 (c), .int .i64 (d)])) (by simp) (i := 1) rfl
  have c00 : w2.cell? ⟨w.heap.size, 0, none⟩ = some (.int .i64 (a)) := H2.cell (e := (w.heap.size, [.int .i64 (a), .int .i64 (b)])) (by simp) (i := 0) rfl
  have c01 : w2.cell? ⟨w.heap.size, 1, none⟩ = some (.int .i64 (b)) := H2.cell (e := (w.heap.size, [.int .i64 (a), .int .i64 (b)])) (by simp) (i := 1) rfl
  have f3 : ∀ i, w2.frozen? ⟨w.heap.size + 1 + 1 + 1, i, none⟩ = false := H2.free (w.heap.size + 1 + 1 + 1, [.int .i64 (0), .int .i64 (0)]) (by simp)
  have f2 : ∀ i, w2.frozen? ⟨w.heap.size + 1 + 1, i, none⟩ = false := H2.free (w.heap.size + 1 + 1, [.int .i64 (0), .int .i64 (0)]) (by simp)
  clear hB
  go_wp2_with fail
  all_goals (refine bodyPost_ret (v := .tuple #[.agg #[.int .i64 0, .int .i64 0], .agg #[.int .i64 0, .int .i64 0], .bool false]) (by simp [results, Try.results101, go_sem, cell_set, c20, c21, c30, c31]) rfl ⟨rfl, ?_⟩)
  all_goals repeat (first | exact H2.below | refine Below.drew ?_ | refine Below.setCell ?_ (by simp; try omega) _)

set_option maxRecDepth 10000 in
set_option maxHeartbeats 4000000 in
theorem itvRelS_4 (a b c d : Int) (w : World) (hab : itvOk a b = true) (hcd : itvOk c d = true) :
    Calls Try.prog 101 #[.int .i64 4, .agg #[.int .i64 a, .int .i64 b], .agg #[.int .i64 c, .int .i64 d]] w fun e w' => e = .returned (.tuple #[.agg #[.int .i64 (other a b c d).l0, .int .i64 (other a b c d).h0], .agg #[.int .i64 (other a b c d).l1, .int .i64 (other a b c d).h1], .bool (other a b c d).ok]) ∧ Below w.heap.size w w' := by
  have ha := (itvOk_of hab).1
  have hc := (itvOk_of hcd).1
  go_enter Try.func101, Try.ntmps101
  go_wp2_with fail
  refine (itvOkS _ _ _).mono ?_
  rintro e w1 ⟨rfl, hB⟩
  have H1 := HeldL.next hB (held4 _ _ _ _ _ _ _ _ _ _)
  have c30 : w1.cell? ⟨w.heap.size + 1 + 1 + 1, 0, none⟩ = some (.int .i64 (0)) := H1.cell (e := (w.heap.size + 1 + 1 + 1, [.int .i64 (0), .int .i64 (0)])) (by simp) (i := 0) rfl
  have c31 : w1.cell? ⟨w.heap.size + 1 + 1 + 1, 1, none⟩ = some (.int .i64 (0)) := H1.cell (e := (w.heap.size + 1 + 1 + 1, [.int .i64 (0), .int .i64 (0)])) (by simp) (i := 1) rfl
  have c20 : w1.cell? ⟨w.heap.size + 1 + 1, 0, none⟩ = some (.int .i64 (0)) := H1.cell (e := (w.heap.size + 1 + 1, [.int .i64 (0), .int .i64 (0)])) (by simp) (i := 0) rfl
  have c21 : w1.cell? ⟨w.heap.size + 1 + 1, 1, none⟩ = some (.int .i64 (0)) := H1.cell (e := (w.heap.size + 1 + 1, [.int .i64 (0), .int .i64 (0)])) (by simp) (i := 1) rfl
  have c10 : w1.cell? ⟨w.heap.size + 1, 0, none⟩ = some (.int .i64 (c)) := H1.cell (e := (w.heap.size + 1, [.int .i64 (c), .int .i64 (d)])) (by simp) (i := 0) rfl
  have c11 : w1.cell? ⟨w.heap.size + 1, 1, none⟩ = some (.int .i64 (d)) := H1.cell (e := (w.heap.size + 1, [.int .i64 (c), .int .i64 (d)])) (by simp) (i := 1) rfl
  have c00 : w1.cell? ⟨w.heap.size, 0, none⟩ = some (.int .i64 (a)) := H1.cell (e := (w.heap.size, [.int .i64 (a), .int .i64 (b)])) (by simp) (i := 0) rfl
  have c01 : w1.cell? ⟨w.heap.size, 1, none⟩ = some (.int .i64 (b)) := H1.cell (e := (w.heap.size, [.int .i64 (a), .int .i64 (b)])) (by simp) (i := 1) rfl
  have f3 : ∀ i, w1.frozen? ⟨w.heap.size + 1 + 1 + 1, i, none⟩ = false := H1.free (w.heap.size + 1 + 1 + 1, [.int .i64 (0), .int .i64 (0)]) (by simp)
  have f2 : ∀ i, w1.frozen? ⟨w.heap.size + 1 + 1, i, none⟩ = false := H1.free (w.heap.size + 1 + 1, [.int .i64 (0), .int .i64 (0)]) (by simp)
  clear hB
  go_wp2_with fail
  refine (itvOkS _ _ _).mono ?_
  rintro e w2 ⟨rfl, hB⟩
  have H2 := HeldL.next hB H1
  clear c00 c01 c10 c11 c20 c21 c30 c31 f2 f3
  have c30 : w2.cell? ⟨w.heap.size + 1 + 1 + 1, 0, none⟩ = some (.int .i64 (0)) := H2.cell (e := (w.heap.size + 1 + 1 + 1, [.int .i64 (0), .int .i64 (0)])) (by simp) (i := 0) rfl
  have c31 : w2.cell? ⟨w.heap.size + 1 + 1 + 1, 1, none⟩ = some (.int .i64 (0)) := H2.cell (e := (w.heap.size + 1 + 1 + 1, [.int .i64 (0), .int .i64 (0)])) (by simp) (i := 1) rfl
  have c20 : w2.cell? ⟨w.heap.size + 1 + 1, 0, none⟩ = some (.int .i64 (0)) := H2.cell (e := (w.heap.size + 1 + 1, [.int .i64 (0), .int .i64 (0)])) (by simp) (i := 0) rfl
  have c21 : w2.cell? ⟨w.heap.size + 1 + 1, 1, none⟩ = some (.int .i64 (0)) := H2.cell (e := (w.heap.size + 1 + 1, [.int .i64 (0), .int .i64 (0)])) (by simp) (i := 1) rfl
  have c10 : w2.cell? ⟨w.heap.size + 1, 0, none⟩ = some (.int .i64 (c)) := H2.cell (e := (w.heap.size + 1, [.int .i64 (c), .int .i64 (d)])) (by simp) (i := 0) rfl
  have c11 : w2.cell? ⟨w.heap.size + 1, 1, none⟩ = some (.int .i64 (d)) := H2.cell (e := (w.heap.size + 1, [.int .i64 (c), .int .i64 (d)])) (by simp) (i := 1) rfl
  have c00 : w2.cell? ⟨w.heap.size, 0, none⟩ = some (.int .i64 (a)) := H2.cell (e := (w.heap.size, [.int .i64 (a), .int .i64 (b)])) (by simp) (i := 0) rfl
  have c01 : w2.cell? ⟨w.heap.size, 1, none⟩ = some (.int .i64 (b)) := H2.cell (e := (w.heap.size, [.int .i64 (a), .int .i64 (b)])) (by simp) (i := 1) rfl
  have f3 : ∀ i, w2.frozen? ⟨w.heap.size + 1 + 1 + 1, i, none⟩ = false := H2.free (w.heap.size + 1 + 1 + 1, [.int .i64 (0), .int .i64 (0)]) (by simp)
  have f2 : ∀ i, w2.frozen? ⟨w.heap.size + 1 + 1, i, none⟩ = false := H2.free (w.heap.size + 1 + 1, [.int .i64 (0), .int .i64 (0)]) (by simp)
  clear hB
  go_wp2_with fail
  refine (otherS _ _ _ _ _ ha hc).mono ?_
  rintro e w3 ⟨rfl, hB⟩
  have H3 := HeldL.next hB H2
  clear c00 c01 c10 c11 c20 c21 c30 c31 f2 f3
  have c30 : w3.cell? ⟨w.heap.size + 1 + 1 + 1, 0, none⟩ = some (.int .i64 (0)) := H3.cell (e := (w.heap.size + 1 + 1 + 1, [.int .i64 (0), .int .i64 (0)])) (by simp) (i := 0) rfl
  have c31 : w3.cell? ⟨w.heap.size + 1 + 1 + 1, 1, none⟩ = some (.int .i64 (0)) := H3.cell (e := (w.heap.size + 1 + 1 + 1, [.int .i64 (0), .int .i64 (0)])) (by simp) (i := 1) rfl
  have c20 : w3.cell? ⟨w.heap.size + 1 + 1, 0, none⟩ = some (.int .i64 (0)) := H3.cell (e := (w.heap.size + 1 + 1, [.int .i64 (0), .int .i64 (0)])) (by simp) (i := 0) rfl
  have c21 : w3.cell? ⟨w.heap.size + 1 + 1, 1, none⟩ = some (.int .i64 (0)) := H3.cell (e := (w.heap.size + 1 + 1, [.int .i64 (0), .int .i64 (0)])) (by simp) (i := 1) rfl
  have c10 : w3.cell? ⟨w.heap.size + 1, 0, none⟩ = some (.int .i64 (c)) := H3.cell (e := (w.heap.size + 1, [.int .i64 (c), .int .i64 (d)])) (by simp) (i := 0) rfl
  have c11 : w3.cell? ⟨w.heap.size + 1, 1, none⟩ = some (.int .i64 (d)) := H3.cell (e := (w.heap.size + 1, [.int .i64 (c), .int .i64 (d)])) (by simp) (i := 1) rfl
  have c00 : w3.cell? ⟨w.heap.size, 0, none⟩ = some (.int .i64 (a)) := H3.cell (e := (w.heap.size, [.int .i64 (a), .int .i64 (b)])) (by simp) (i := 0) rfl
  have c01 : w3.cell? ⟨w.heap.size, 1, none⟩ = some (.int .i64 (b)) := H3.cell (e := (w.heap.size, [.int .i64 (a), .int .i64 (b)])) (by simp) (i := 1) rfl
  have f3 : ∀ i, w3.frozen? ⟨w.heap.size + 1 + 1 + 1, i, none⟩ = false := H3.free (w.heap.size + 1 + 1 + 1, [.int .i64 (0), .int .i64 (0)]) (by simp)
  have f2 : ∀ i, w3.frozen? ⟨w.heap.size + 1 + 1, i, none⟩ = false := H3.free (w.heap.size + 1 + 1, [.int .i64 (0), .int .i64 (0)]) (by simp)
  clear hB
  go_wp2_with fail
  all_goals (refine bodyPost_ret (v := .tuple #[.agg #[.int .i64 (other a b c d).l0, .int .i64 (other a b c d).h0], .agg #[.int .i64 (other a b c d).l1, .int .i64 (other a b c d).h1], .bool (other a b c d).ok]) (by simp [results, Try.results101, go_sem, cell_set, c20, c21, c30, c31]) rfl ⟨rfl, ?_⟩)
  all_goals repeat (first | exact H3.below | refine Below.drew ?_ | refine Below.setCell ?_ (by simp; try omega) _)
end Go.Proofs.Ytdpkbbbfnmneiaa
namespace Go.Proofs.Ytdpkbbbfnmneiaa
open Go.ChangeShapes Go.WideShapes Go.ChangeAt Go.RowKit

theorem bothS_eq {a b c d : Int} (a' b' c' d' : Int) (w : World) (h : a = a' ∧ b = b' ∧ c = c' ∧ d = d') :
    Calls Try.prog 120 #[.agg #[.int .i64 a, .int .i64 b], .agg #[.int .i64 c, .int .i64 d]] w fun e w' => e = .returned (.tuple #[.agg #[.int .i64 (both a' b' c' d').l0, .int .i64 (both a' b' c' d').h0], .agg #[.int .i64 (both a' b' c' d').l1, .int .i64 (both a' b' c' d').h1], .bool (both a' b' c' d').ok]) ∧ Below w.heap.size w w' := by
  obtain ⟨rfl, rfl, rfl, rfl⟩ := h
  exact bothS _ _ _ _ _

set_option maxRecDepth 10000 in
set_option maxHeartbeats 4000000 in
theorem itvRelS_1 (a b c d : Int) (w : World) (hab : itvOk a b = true) (hcd : itvOk c d = true) :
    Calls Try.prog 101 #[.int .i64 1, .agg #[.int .i64 a, .int .i64 b], .agg #[.int .i64 c, .int .i64 d]] w fun e w' => e = .returned (.tuple #[.agg #[.int .i64 (both a (min b (d - 1)) (max c (a + 1)) d).l0, .int .i64 (both a (min b (d - 1)) (max c (a + 1)) d).h0], .agg #[.int .i64 (both a (min b (d - 1)) (max c (a + 1)) d).l1, .int .i64 (both a (min b (d - 1)) (max c (a + 1)) d).h1], .bool (both a (min b (d - 1)) (max c (a + 1)) d).ok]) ∧ Below w.heap.size w w' := by
  obtain ⟨ha, hb0, hl1⟩ := itvOk_of hab
  obtain ⟨hc0, hd, hl2⟩ := itvOk_of hcd
  have a1 := ok_lo ha
  have a2 := ok_hi ha
  have a3 := ok_lo hb0
  have a4 := ok_hi hb0
  have a5 := ok_lo hc0
  have a6 := ok_hi hc0
  have a7 := ok_lo hd
  have a8 := ok_hi hd
  clear ha hb0 hc0 hd
  go_enter Try.func101, Try.ntmps101
  go_wp2_with fail
  refine (itvOkS _ _ _).mono ?_
  rintro e w1 ⟨rfl, hB⟩
  have H1 := HeldL.next hB (held4 _ _ _ _ _ _ _ _ _ _)
  have c30 : w1.cell? ⟨w.heap.size + 1 + 1 + 1, 0, none⟩ = some (.int .i64 (0)) := H1.cell (e := (w.heap.size + 1 + 1 + 1, [.int .i64 (0), .int .i64 (0)])) (by simp) (i := 0) rfl
  have c31 : w1.cell? ⟨w.heap.size + 1 + 1 + 1, 1, none⟩ = some (.int .i64 (0)) := H1.cell (e := (w.heap.size + 1 + 1 + 1, [.int .i64 (0), .int .i64 (0)])) (by simp) (i := 1) rfl
  have c20 : w1.cell? ⟨w.heap.size + 1 + 1, 0, none⟩ = some (.int .i64 (0)) := H1.cell (e := (w.heap.size + 1 + 1, [.int .i64 (0), .int .i64 (0)])) (by simp) (i := 0) rfl
  have c21 : w1.cell? ⟨w.heap.size + 1 + 1, 1, none⟩ = some (.int .i64 (0)) := H1.cell (e := (w.heap.size + 1 + 1, [.int .i64 (0), .int .i64 (0)])) (by simp) (i := 1) rfl
  have c10 : w1.cell? ⟨w.heap.size + 1, 0, none⟩ = some (.int .i64 (c)) := H1.cell (e := (w.heap.size + 1, [.int .i64 (c), .int .i64 (d)])) (by simp) (i := 0) rfl
  have c11 : w1.cell? ⟨w.heap.size + 1, 1, none⟩ = some (.int .i64 (d)) := H1.cell (e := (w.heap.size + 1, [.int .i64 (c), .int .i64 (d)])) (by simp) (i := 1) rfl
  have c00 : w1.cell? ⟨w.heap.size, 0, none⟩ = some (.int .i64 (a)) := H1.cell (e := (w.heap.size, [.int .i64 (a), .int .i64 (b)])) (by simp) (i := 0) rfl
  have c01 : w1.cell? ⟨w.heap.size, 1, none⟩ = some (.int .i64 (b)) := H1.cell (e := (w.heap.size, [.int .i64 (a), .int .i64 (b)])) (by simp) (i := 1) rfl
  have f3 : ∀ i, w1.frozen? ⟨w.heap.size + 1 + 1 + 1, i, none⟩ = false := H1.free (w.heap.size + 1 + 1 + 1, [.int .i64 (0), .int .i64 (0)]) (by simp)
  have f2 : ∀ i, w1.frozen? ⟨w.heap.size + 1 + 1, i, none⟩ = false := H1.free (w.heap.size + 1 + 1, [.int .i64 (0), .int .i64 (0)]) (by simp)
  clear hB
  go_wp2_with fail
  refine (itvOkS _ _ _).mono ?_
  rintro e w2 ⟨rfl, hB⟩
  have H2 := HeldL.next hB H1
  clear c00 c01 c10 c11 c20 c21 c30 c31 f2 f3
  have c30 : w2.cell? ⟨w.heap.size + 1 + 1 + 1, 0, none⟩ = some (.int .i64 (0)) := H2.cell (e := (w.heap.size + 1 + 1 + 1, [.int .i64 (0), .int .i64 (0)])) (by simp) (i := 0) rfl
  have c31 : w2.cell? ⟨w.heap.size + 1 + 1 + 1, 1, none⟩ = some (.int .i64 (0)) := H2.cell (e := (w.heap.size + 1 + 1 + 1, [.int .i64 (0), .int .i64 (0)])) (by simp) (i := 1) rfl
  have c20 : w2.cell? ⟨w.heap.size + 1 + 1, 0, none⟩ = some (.int .i64 (0)) := H2.cell (e := (w.heap.size + 1 + 1, [.int .i64 (0), .int .i64 (0)])) (by simp) (i := 0) rfl
  have c21 : w2.cell? ⟨w.heap.size + 1 + 1, 1, none⟩ = some (.int .i64 (0)) := H2.cell (e := (w.heap.size + 1 + 1, [.int .i64 (0), .int .i64 (0)])) (by simp) (i := 1) rfl
  have c10 : w2.cell? ⟨w.heap.size + 1, 0, none⟩ = some (.int .i64 (c)) := H2.cell (e := (w.heap.size + 1, [.int .i64 (c), .int .i64 (d)])) (by simp) (i := 0) rfl
  have c11 : w2.cell? ⟨w.heap.size + 1, 1, none⟩ = some (.int .i64 (d)) := H2.cell (e := (w.heap.size + 1, [.int .i64 (c), .int .i64 (d)])) (by simp) (i := 1) rfl
  have c00 : w2.cell? ⟨w.heap.size, 0, none⟩ = some (.int .i64 (a)) := H2.cell (e := (w.heap.size, [.int .i64 (a), .int .i64 (b)])) (by simp) (i := 0) rfl
  have c01 : w2.cell? ⟨w.heap.size, 1, none⟩ = some (.int .i64 (b)) := H2.cell (e := (w.heap.size, [.int .i64 (a), .int .i64 (b)])) (by simp) (i := 1) rfl
  have f3 : ∀ i, w2.frozen? ⟨w.heap.size + 1 + 1 + 1, i, none⟩ = false := H2.free (w.heap.size + 1 + 1 + 1, [.int .i64 (0), .int .i64 (0)]) (by simp)
  have f2 : ∀ i, w2.frozen? ⟨w.heap.size + 1 + 1, i, none⟩ = false := H2.free (w.heap.size + 1 + 1, [.int .i64 (0), .int .i64 (0)]) (by simp)
  clear hB
  go_wp2_with fail
  all_goals
    refine (bothS_eq a (min b (d - 1)) (max c (a + 1)) d _ (by omega)).mono ?_
    rintro e w3 ⟨rfl, hB⟩
    have H3 := HeldL.next hB H2
    clear c00 c01 c10 c11 c20 c21 c30 c31 f2 f3
    have c30 : w3.cell? ⟨w.heap.size + 1 + 1 + 1, 0, none⟩ = some (.int .i64 (0)) := H3.cell (e := (w.heap.size + 1 + 1 + 1, [.int .i64 (0), .int .i64 (0)])) (by simp) (i := 0) rfl
    have c31 : w3.cell? ⟨w.heap.size + 1 + 1 + 1, 1, none⟩ = some (.int .i64 (0)) := H3.cell (e := (w.heap.size + 1 + 1 + 1, [.int .i64 (0), .int .i64 (0)])) (by simp) (i := 1) rfl
    have c20 : w3.cell? ⟨w.heap.size + 1 + 1, 0, none⟩ = some (.int .i64 (0)) := H3.cell (e := (w.heap.size + 1 + 1, [.int .i64 (0), .int .i64 (0)])) (by simp) (i := 0) rfl
    have c21 : w3.cell? ⟨w.heap.size + 1 + 1, 1, none⟩ = some (.int .i64 (0)) := H3.cell (e := (w.heap.size + 1 + 1, [.int .i64 (0), .int .i64 (0)])) (by simp) (i := 1) rfl
    have c10 : w3.cell? ⟨w.heap.size + 1, 0, none⟩ = some (.int .i64 (c)) := H3.cell (e := (w.heap.size + 1, [.int .i64 (c), .int .i64 (d)])) (by simp) (i := 0) rfl
    have c11 : w3.cell? ⟨w.heap.size + 1, 1, none⟩ = some (.int .i64 (d)) := H3.cell (e := (w.heap.size + 1, [.int .i64 (c), .int .i64 (d)])) (by simp) (i := 1) rfl
    have c00 : w3.cell? ⟨w.heap.size, 0, none⟩ = some (.int .i64 (a)) := H3.cell (e := (w.heap.size, [.int .i64 (a), .int .i64 (b)])) (by simp) (i := 0) rfl
    have c01 : w3.cell? ⟨w.heap.size, 1, none⟩ = some (.int .i64 (b)) := H3.cell (e := (w.heap.size, [.int .i64 (a), .int .i64 (b)])) (by simp) (i := 1) rfl
    have f3 : ∀ i, w3.frozen? ⟨w.heap.size + 1 + 1 + 1, i, none⟩ = false := H3.free (w.heap.size + 1 + 1 + 1, [.int .i64 (0), .int .i64 (0)]) (by simp)
    have f2 : ∀ i, w3.frozen? ⟨w.heap.size + 1 + 1, i, none⟩ = false := H3.free (w.heap.size + 1 + 1, [.int .i64 (0), .int .i64 (0)]) (by simp)
    clear hB
    go_wp2_with fail
    refine bodyPost_ret (v := .tuple #[.agg #[.int .i64 (both a (min b (d - 1)) (max c (a + 1)) d).l0, .int .i64 (both a (min b (d - 1)) (max c (a + 1)) d).h0], .agg #[.int .i64 (both a (min b (d - 1)) (max c (a + 1)) d).l1, .int .i64 (both a (min b (d - 1)) (max c (a + 1)) d).h1], .bool (both a (min b (d - 1)) (max c (a + 1)) d).ok]) (by simp [results, Try.results101, go_sem, cell_set, c20, c21, c30, c31]) rfl ⟨rfl, ?_⟩
    repeat (first | exact H3.below | refine Below.drew ?_ | refine Below.setCell ?_ (by simp; try omega) _)

set_option maxRecDepth 10000 in
set_option maxHeartbeats 4000000 in
theorem itvRelS_2 (a b c d : Int) (w : World) (hab : itvOk a b = true) (hcd : itvOk c d = true) :
    Calls Try.prog 101 #[.int .i64 2, .agg #[.int .i64 a, .int .i64 b], .agg #[.int .i64 c, .int .i64 d]] w fun e w' => e = .returned (.tuple #[.agg #[.int .i64 (both a (min b d) (max c a) d).l0, .int .i64 (both a (min b d) (max c a) d).h0], .agg #[.int .i64 (both a (min b d) (max c a) d).l1, .int .i64 (both a (min b d) (max c a) d).h1], .bool (both a (min b d) (max c a) d).ok]) ∧ Below w.heap.size w w' := by
  obtain ⟨ha, hb0, hl1⟩ := itvOk_of hab
  obtain ⟨hc0, hd, hl2⟩ := itvOk_of hcd
  have a1 := ok_lo ha
  have a2 := ok_hi ha
  have a3 := ok_lo hb0
  have a4 := ok_hi hb0
  have a5 := ok_lo hc0
  have a6 := ok_hi hc0
  have a7 := ok_lo hd
  have a8 := ok_hi hd
  clear ha hb0 hc0 hd
  go_enter Try.func101, Try.ntmps101
  go_wp2_with fail
  refine (itvOkS _ _ _).mono ?_
  rintro e w1 ⟨rfl, hB⟩
  have H1 := HeldL.next hB (held4 _ _ _ _ _ _ _ _ _ _)
  have c30 : w1.cell? ⟨w.heap.size + 1 + 1 + 1, 0, none⟩ = some (.int .i64 (0)) := H1.cell (e := (w.heap.size + 1 + 1 + 1, [.int .i64 (0), .int .i64 (0)])) (by simp) (i := 0) rfl
  have c31 : w1.cell? ⟨w.heap.size + 1 + 1 + 1, 1, none⟩ = some (.int .i64 (0)) := H1.cell (e := (w.heap.size + 1 + 1 + 1, [.int .i64 (0), .int .i64 (0)])) (by simp) (i := 1) rfl
  have c20 : w1.cell? ⟨w.heap.size + 1 + 1, 0, none⟩ = some (.int .i64 (0)) := H1.cell (e := (w.heap.size + 1 + 1, [.int .i64 (0), .int .i64 (0)])) (by simp) (i := 0) rfl
  have c21 : w1.cell? ⟨w.heap.size + 1 + 1, 1, none⟩ = some (.int .i64 (0)) := H1.cell (e := (w.heap.size + 1 + 1, [.int .i64 (0), .int .i64 (0)])) (by simp) (i := 1) rfl
  have c10 : w1.cell? ⟨w.heap.size + 1, 0, none⟩ = some (.int .i64 (c)) := H1.cell (e := (w.heap.size + 1, [.int .i64 (c), .int .i64 (d)])) (by simp) (i := 0) rfl
  have c11 : w1.cell? ⟨w.heap.size + 1, 1, none⟩ = some (.int .i64 (d)) := H1.cell (e := (w.heap.size + 1, [.int .i64 (c), .int .i64 (d)])) (by simp) (i := 1) rfl
  have c00 : w1.cell? ⟨w.heap.size, 0, none⟩ = some (.int .i64 (a)) := H1.cell (e := (w.heap.size, [.int .i64 (a), .int .i64 (b)])) (by simp) (i := 0) rfl
  have c01 : w1.cell? ⟨w.heap.size, 1, none⟩ = some (.int .i64 (b)) := H1.cell (e := (w.heap.size, [.int .i64 (a), .int .i64 (b)])) (by simp) (i := 1) rfl
  have f3 : ∀ i, w1.frozen? ⟨w.heap.size + 1 + 1 + 1, i, none⟩ = false := H1.free (w.heap.size + 1 + 1 + 1, [.int .i64 (0), .int .i64 (0)]) (by simp)
  have f2 : ∀ i, w1.frozen? ⟨w.heap.size + 1 + 1, i, none⟩ = false := H1.free (w.heap.size + 1 + 1, [.int .i64 (0), .int .i64 (0)]) (by simp)
  clear hB
  go_wp2_with fail
  refine (itvOkS _ _ _).mono ?_
  rintro e w2 ⟨rfl, hB⟩
  have H2 := HeldL.next hB H1
  clear c00 c01 c10 c11 c20 c21 c30 c31 f2 f3
  have c30 : w2.cell? ⟨w.heap.size + 1 + 1 + 1, 0, none⟩ = some (.int .i64 (0)) := H2.cell (e := (w.heap.size + 1 + 1 + 1, [.int .i64 (0), .int .i64 (0)])) (by simp) (i := 0) rfl
  have c31 : w2.cell? ⟨w.heap.size + 1 + 1 + 1, 1, none⟩ = some (.int .i64 (0)) := H2.cell (e := (w.heap.size + 1 + 1 + 1, [.int .i64 (0), .int .i64 (0)])) (by simp) (i := 1) rfl
  have c20 : w2.cell? ⟨w.heap.size + 1 + 1, 0, none⟩ = some (.int .i64 (0)) := H2.cell (e := (w.heap.size + 1 + 1, [.int .i64 (0), .int .i64 (0)])) (by simp) (i := 0) rfl
  have c21 : w2.cell? ⟨w.heap.size + 1 + 1, 1, none⟩ = some (.int .i64 (0)) := H2.cell (e := (w.heap.size + 1 + 1, [.int .i64 (0), .int .i64 (0)])) (by simp) (i := 1) rfl
  have c10 : w2.cell? ⟨w.heap.size + 1, 0, none⟩ = some (.int .i64 (c)) := H2.cell (e := (w.heap.size + 1, [.int .i64 (c), .int .i64 (d)])) (by simp) (i := 0) rfl
  have c11 : w2.cell? ⟨w.heap.size + 1, 1, none⟩ = some (.int .i64 (d)) := H2.cell (e := (w.heap.size + 1, [.int .i64 (c), .int .i64 (d)])) (by simp) (i := 1) rfl
  have c00 : w2.cell? ⟨w.heap.size, 0, none⟩ = some (.int .i64 (a)) := H2.cell (e := (w.heap.size, [.int .i64 (a), .int .i64 (b)])) (by simp) (i := 0) rfl
  have c01 : w2.cell? ⟨w.heap.size, 1, none⟩ = some (.int .i64 (b)) := H2.cell (e := (w.heap.size, [.int .i64 (a), .int .i64 (b)])) (by simp) (i := 1) rfl
  have f3 : ∀ i, w2.frozen? ⟨w.heap.size + 1 + 1 + 1, i, none⟩ = false := H2.free (w.heap.size + 1 + 1 + 1, [.int .i64 (0), .int .i64 (0)]) (by simp)
  have f2 : ∀ i, w2.frozen? ⟨w.heap.size + 1 + 1, i, none⟩ = false := H2.free (w.heap.size + 1 + 1, [.int .i64 (0), .int .i64 (0)]) (by simp)
  clear hB
  go_wp2_with fail
  all_goals
    refine (bothS_eq a (min b d) (max c a) d _ (by omega)).mono ?_
    rintro e w3 ⟨rfl, hB⟩
    have H3 := HeldL.next hB H2
    clear c00 c01 c10 c11 c20 c21 c30 c31 f2 f3
    have c30 : w3.cell? ⟨w.heap.size + 1 + 1 + 1, 0, none⟩ = some (.int .i64 (0)) := H3.cell (e := (w.heap.size + 1 + 1 + 1, [.int .i64 (0), .int .i64 (0)])) (by simp) (i := 0) rfl
    have c31 : w3.cell? ⟨w.heap.size + 1 + 1 + 1, 1, none⟩ = some (.int .i64 (0)) := H3.cell (e := (w.heap.size + 1 + 1 + 1, [.int .i64 (0), .int .i64 (0)])) (by simp) (i := 1) rfl
    have c20 : w3.cell? ⟨w.heap.size + 1 + 1, 0, none⟩ = some (.int .i64 (0)) := H3.cell (e := (w.heap.size + 1 + 1, [.int .i64 (0), .int .i64 (0)])) (by simp) (i := 0) rfl
    have c21 : w3.cell? ⟨w.heap.size + 1 + 1, 1, none⟩ = some (.int .i64 (0)) := H3.cell (e := (w.heap.size + 1 + 1, [.int .i64 (0), .int .i64 (0)])) (by simp) (i := 1) rfl
    have c10 : w3.cell? ⟨w.heap.size + 1, 0, none⟩ = some (.int .i64 (c)) := H3.cell (e := (w.heap.size + 1, [.int .i64 (c), .int .i64 (d)])) (by simp) (i := 0) rfl
    have c11 : w3.cell? ⟨w.heap.size + 1, 1, none⟩ = some (.int .i64 (d)) := H3.cell (e := (w.heap.size + 1, [.int .i64 (c), .int .i64 (d)])) (by simp) (i := 1) rfl
    have c00 : w3.cell? ⟨w.heap.size, 0, none⟩ = some (.int .i64 (a)) := H3.cell (e := (w.heap.size, [.int .i64 (a), .int .i64 (b)])) (by simp) (i := 0) rfl
    have c01 : w3.cell? ⟨w.heap.size, 1, none⟩ = some (.int .i64 (b)) := H3.cell (e := (w.heap.size, [.int .i64 (a), .int .i64 (b)])) (by simp) (i := 1) rfl
    have f3 : ∀ i, w3.frozen? ⟨w.heap.size + 1 + 1 + 1, i, none⟩ = false := H3.free (w.heap.size + 1 + 1 + 1, [.int .i64 (0), .int .i64 (0)]) (by simp)
    have f2 : ∀ i, w3.frozen? ⟨w.heap.size + 1 + 1, i, none⟩ = false := H3.free (w.heap.size + 1 + 1, [.int .i64 (0), .int .i64 (0)]) (by simp)
    clear hB
    go_wp2_with fail
    refine bodyPost_ret (v := .tuple #[.agg #[.int .i64 (both a (min b d) (max c a) d).l0, .int .i64 (both a (min b d) (max c a) d).h0], .agg #[.int .i64 (both a (min b d) (max c a) d).l1, .int .i64 (both a (min b d) (max c a) d).h1], .bool (both a (min b d) (max c a) d).ok]) (by simp [results, Try.results101, go_sem, cell_set, c20, c21, c30, c31]) rfl ⟨rfl, ?_⟩
    repeat (first | exact H3.below | refine Below.drew ?_ | refine Below.setCell ?_ (by simp; try omega) _)

set_option maxRecDepth 10000 in
set_option maxHeartbeats 4000000 in
theorem itvRelS_3 (a b c d : Int) (w : World) (hab : itvOk a b = true) (hcd : itvOk c d = true) :
    Calls Try.prog 101 #[.int .i64 3, .agg #[.int .i64 a, .int .i64 b], .agg #[.int .i64 c, .int .i64 d]] w fun e w' => e = .returned (.tuple #[.agg #[.int .i64 (both (max a c) (min b d) (max a c) (min b d)).l0, .int .i64 (both (max a c) (min b d) (max a c) (min b d)).h0], .agg #[.int .i64 (both (max a c) (min b d) (max a c) (min b d)).l1, .int .i64 (both (max a c) (min b d) (max a c) (min b d)).h1], .bool (both (max a c) (min b d) (max a c) (min b d)).ok]) ∧ Below w.heap.size w w' := by
  obtain ⟨ha, hb0, hl1⟩ := itvOk_of hab
  obtain ⟨hc0, hd, hl2⟩ := itvOk_of hcd
  have a1 := ok_lo ha
  have a2 := ok_hi ha
  have a3 := ok_lo hb0
  have a4 := ok_hi hb0
  have a5 := ok_lo hc0
  have a6 := ok_hi hc0
  have a7 := ok_lo hd
  have a8 := ok_hi hd
  clear ha hb0 hc0 hd
  go_enter Try.func101, Try.ntmps101
  go_wp2_with fail
  refine (itvOkS _ _ _).mono ?_
  rintro e w1 ⟨rfl, hB⟩
  have H1 := HeldL.next hB (held4 _ _ _ _ _ _ _ _ _ _)
  have c30 : w1.cell? ⟨w.heap.size + 1 + 1 + 1, 0, none⟩ = some (.int .i64 (0)) := H1.cell (e := (w.heap.size + 1 + 1 + 1, [.int .i64 (0), .int .i64 (0)])) (by simp) (i := 0) rfl
  have c31 : w1.cell? ⟨w.heap.size + 1 + 1 + 1, 1, none⟩ = some (.int .i64 (0)) := H1.cell (e := (w.heap.size + 1 + 1 + 1, [.int .i64 (0), .int .i64 (0)])) (by simp) (i := 1) rfl
  have c20 : w1.cell? ⟨w.heap.size + 1 + 1, 0, none⟩ = some (.int .i64 (0)) := H1.cell (e := (w.heap.size + 1 + 1, [.int .i64 (0), .int .i64 (0)])) (by simp) (i := 0) rfl
  have c21 : w1.cell? ⟨w.heap.size + 1 + 1, 1, none⟩ = some (.int .i64 (0)) := H1.cell (e := (w.heap.size + 1 + 1, [.int .i64 (0), .int .i64 (0)])) (by simp) (i := 1) rfl
  have c10 : w1.cell? ⟨w.heap.size + 1, 0, none⟩ = some (.int .i64 (c)) := H1.cell (e := (w.heap.size + 1, [.int .i64 (c), .int .i64 (d)])) (by simp) (i := 0) rfl
  have c11 : w1.cell? ⟨w.heap.size + 1, 1, none⟩ = some (.int .i64 (d)) := H1.cell (e := (w.heap.size + 1, [.int .i64 (c), .int .i64 (d)])) (by simp) (i := 1) rfl
  have c00 : w1.cell? ⟨w.heap.size, 0, none⟩ = some (.int .i64 (a)) := H1.cell (e := (w.heap.size, [.int .i64 (a), .int .i64 (b)])) (by simp) (i := 0) rfl
  have c01 : w1.cell? ⟨w.heap.size, 1, none⟩ = some (.int .i64 (b)) := H1.cell (e := (w.heap.size, [.int .i64 (a), .int .i64 (b)])) (by simp) (i := 1) rfl
  have f3 : ∀ i, w1.frozen? ⟨w.heap.size + 1 + 1 + 1, i, none⟩ = false := H1.free (w.heap.size + 1 + 1 + 1, [.int .i64 (0), .int .i64 (0)]) (by simp)
  have f2 : ∀ i, w1.frozen? ⟨w.heap.size + 1 + 1, i, none⟩ = false := H1.free (w.heap.size + 1 + 1, [.int .i64 (0), .int .i64 (0)]) (by simp)
  clear hB
  go_wp2_with fail
  refine (itvOkS _ _ _).mono ?_
  rintro e w2 ⟨rfl, hB⟩
  have H2 := HeldL.next hB H1
  clear c00 c01 c10 c11 c20 c21 c30 c31 f2 f3
  have c30 : w2.cell? ⟨w.heap.size + 1 + 1 + 1, 0, none⟩ = some (.int .i64 (0)) := H2.cell (e := (w.heap.size + 1 + 1 + 1, [.int .i64 (0), .int .i64 (0)])) (by simp) (i := 0) rfl
  have c31 : w2.cell? ⟨w.heap.size + 1 + 1 + 1, 1, none⟩ = some (.int .i64 (0)) := H2.cell (e := (w.heap.size + 1 + 1 + 1, [.int .i64 (0), .int .i64 (0)])) (by simp) (i := 1) rfl
  have c20 : w2.cell? ⟨w.heap.size + 1 + 1, 0, none⟩ = some (.int .i64 (0)) := H2.cell (e := (w.heap.size + 1 + 1, [.int .i64 (0), .int .i64 (0)])) (by simp) (i := 0) rfl
  have c21 : w2.cell? ⟨w.heap.size + 1 + 1, 1, none⟩ = some (.int .i64 (0)) := H2.cell (e := (w.heap.size + 1 + 1, [.int .i64 (0), .int .i64 (0)])) (by simp) (i := 1) rfl
  have c10 : w2.cell? ⟨w.heap.size + 1, 0, none⟩ = some (.int .i64 (c)) := H2.cell (e := (w.heap.size + 1, [.int .i64 (c), .int .i64 (d)])) (by simp) (i := 0) rfl
  have c11 : w2.cell? ⟨w.heap.size + 1, 1, none⟩ = some (.int .i64 (d)) := H2.cell (e := (w.heap.size + 1, [.int .i64 (c), .int .i64 (d)])) (by simp) (i := 1) rfl
  have c00 : w2.cell? ⟨w.heap.size, 0, none⟩ = some (.int .i64 (a)) := H2.cell (e := (w.heap.size, [.int .i64 (a), .int .i64 (b)])) (by simp) (i := 0) rfl
  have c01 : w2.cell? ⟨w.heap.size, 1, none⟩ = some (.int .i64 (b)) := H2.cell (e := (w.heap.size, [.int .i64 (a), .int .i64 (b)])) (by simp) (i := 1) rfl
  have f3 : ∀ i, w2.frozen? ⟨w.heap.size + 1 + 1 + 1, i, none⟩ = false := H2.free (w.heap.size + 1 + 1 + 1, [.int .i64 (0), .int .i64 (0)]) (by simp)
  have f2 : ∀ i, w2.frozen? ⟨w.heap.size + 1 + 1, i, none⟩ = false := H2.free (w.heap.size + 1 + 1, [.int .i64 (0), .int .i64 (0)]) (by simp)
  clear hB
  go_wp2_with fail
  all_goals
    refine (bothS_eq (max a c) (min b d) (max a c) (min b d) _ (by omega)).mono ?_
    rintro e w3 ⟨rfl, hB⟩
    have H3 := HeldL.next hB (HeldL.alloc _ H2)
    clear c00 c01 c10 c11 c20 c21 c30 c31 f2 f3
    have c30 : w3.cell? ⟨w.heap.size + 1 + 1 + 1, 0, none⟩ = some (.int .i64 (0)) := H3.cell (e := (w.heap.size + 1 + 1 + 1, [.int .i64 (0), .int .i64 (0)])) (by simp) (i := 0) rfl
    have c31 : w3.cell? ⟨w.heap.size + 1 + 1 + 1, 1, none⟩ = some (.int .i64 (0)) := H3.cell (e := (w.heap.size + 1 + 1 + 1, [.int .i64 (0), .int .i64 (0)])) (by simp) (i := 1) rfl
    have c20 : w3.cell? ⟨w.heap.size + 1 + 1, 0, none⟩ = some (.int .i64 (0)) := H3.cell (e := (w.heap.size + 1 + 1, [.int .i64 (0), .int .i64 (0)])) (by simp) (i := 0) rfl
    have c21 : w3.cell? ⟨w.heap.size + 1 + 1, 1, none⟩ = some (.int .i64 (0)) := H3.cell (e := (w.heap.size + 1 + 1, [.int .i64 (0), .int .i64 (0)])) (by simp) (i := 1) rfl
    have c10 : w3.cell? ⟨w.heap.size + 1, 0, none⟩ = some (.int .i64 (c)) := H3.cell (e := (w.heap.size + 1, [.int .i64 (c), .int .i64 (d)])) (by simp) (i := 0) rfl
    have c11 : w3.cell? ⟨w.heap.size + 1, 1, none⟩ = some (.int .i64 (d)) := H3.cell (e := (w.heap.size + 1, [.int .i64 (c), .int .i64 (d)])) (by simp) (i := 1) rfl
    have c00 : w3.cell? ⟨w.heap.size, 0, none⟩ = some (.int .i64 (a)) := H3.cell (e := (w.heap.size, [.int .i64 (a), .int .i64 (b)])) (by simp) (i := 0) rfl
    have c01 : w3.cell? ⟨w.heap.size, 1, none⟩ = some (.int .i64 (b)) := H3.cell (e := (w.heap.size, [.int .i64 (a), .int .i64 (b)])) (by simp) (i := 1) rfl
    have f3 : ∀ i, w3.frozen? ⟨w.heap.size + 1 + 1 + 1, i, none⟩ = false := H3.free (w.heap.size + 1 + 1 + 1, [.int .i64 (0), .int .i64 (0)]) (by simp)
    have f2 : ∀ i, w3.frozen? ⟨w.heap.size + 1 + 1, i, none⟩ = false := H3.free (w.heap.size + 1 + 1, [.int .i64 (0), .int .i64 (0)]) (by simp)
    clear hB
    go_wp2_with fail
    refine bodyPost_ret (v := .tuple #[.agg #[.int .i64 (both (max a c) (min b d) (max a c) (min b d)).l0, .int .i64 (both (max a c) (min b d) (max a c) (min b d)).h0], .agg #[.int .i64 (both (max a c) (min b d) (max a c) (min b d)).l1, .int .i64 (both (max a c) (min b d) (max a c) (min b d)).h1], .bool (both (max a c) (min b d) (max a c) (min b d)).ok]) (by simp [results, Try.results101, go_sem, cell_set, c20, c21, c30, c31]) rfl ⟨rfl, ?_⟩
    repeat (first | exact H3.below | refine Below.drew ?_ | refine Below.setCell ?_ (by simp; try omega) _)

theorem itvRelS (rel a b c d : Int) (w : World) :
    Calls Try.prog 101 #[.int .i64 rel, .agg #[.int .i64 a, .int .i64 b], .agg #[.int .i64 c, .int .i64 d]] w fun e w' => e = .returned (.tuple #[.agg #[.int .i64 (itvRel rel a b c d).l0, .int .i64 (itvRel rel a b c d).h0], .agg #[.int .i64 (itvRel rel a b c d).l1, .int .i64 (itvRel rel a b c d).h1], .bool (itvRel rel a b c d).ok]) ∧ Below w.heap.size w w' := by
  cases hab : itvOk a b
  · have k : itvRel rel a b c d = ⟨0, 0, 0, 0, false⟩ := by simp [itvRel, two, hab, Two.none]
    rw [k]; exact itvRelS_na rel a b c d w hab
  cases hcd : itvOk c d
  · have k : itvRel rel a b c d = ⟨0, 0, 0, 0, false⟩ := by simp [itvRel, two, hcd, Two.none]
    rw [k]; exact itvRelS_nb rel a b c d w hab hcd
  have t2 : two a b c d = true := by simp [two, hab, hcd]
  by_cases h1 : rel = 1
  · subst h1
    have k : itvRel 1 a b c d = both a (min b (d - 1)) (max c (a + 1)) d := by simp [itvRel, t2]
    rw [k]; exact itvRelS_1 a b c d w hab hcd
  by_cases h2 : rel = 2
  · subst h2
    have k : itvRel 2 a b c d = both a (min b d) (max c a) d := by simp [itvRel, t2]
    rw [k]; exact itvRelS_2 a b c d w hab hcd
  by_cases h3 : rel = 3
  · subst h3
    have k : itvRel 3 a b c d = both (max a c) (min b d) (max a c) (min b d) := by simp [itvRel, t2]
    rw [k]; exact itvRelS_3 a b c d w hab hcd
  by_cases h4 : rel = 4
  · subst h4
    have k : itvRel 4 a b c d = other a b c d := by simp [itvRel, t2]
    rw [k]; exact itvRelS_4 a b c d w hab hcd
  · have k : itvRel rel a b c d = ⟨0, 0, 0, 0, false⟩ := by simp [itvRel, h1, h2, h3, h4, Two.none]
    rw [k]; exact itvRelS_no rel a b c d w hab hcd h1 h2 h3 h4
end Go.Proofs.Ytdpkbbbfnmneiaa
namespace Go.Proofs.Ytdpkbbbfnmneiaa
open Go.ChangeShapes Go.WideShapes Go.ChangeAt Go.RowKit

set_option maxRecDepth 10000 in
set_option maxHeartbeats 4000000 in
theorem itvNotS_no (rel a b c d : Int) (w : World) (n1 : rel ≠ 1) (n2 : rel ≠ 2) (n3 : rel ≠ 3) (n4 : rel ≠ 4) :
    Calls Try.prog 73 #[.int .i64 rel, .agg #[.int .i64 a, .int .i64 b], .agg #[.int .i64 c, .int .i64 d]] w fun e w' => e = .returned (.tuple #[.agg #[.int .i64 0, .int .i64 0], .agg #[.int .i64 0, .int .i64 0], .bool false]) ∧ Below w.heap.size w w' := by
  have g1 : (rel == 1) = false := by simpa using n1
  have g2 : (rel == 2) = false := by simpa using n2
  have g3 : (rel == 3) = false := by simpa using n3
  have g4 : (rel == 4) = false := by simpa using n4
  go_enter Try.func73, Try.ntmps73
  go_wp2_with fail
  refine bodyPost_ret (v := .tuple #[.agg #[.int .i64 0, .int .i64 0], .agg #[.int .i64 0, .int .i64 0], .bool false]) (by simp [results, Try.results73, go_sem]) rfl ⟨rfl, ?_⟩
  repeat (first | exact Below.refl _ _ | refine Below.drew ?_ | refine Below.alloc ?_ (by simp; try omega) _ | refine Below.setCell ?_ (by simp; try omega) _)

set_option maxRecDepth 10000 in
set_option maxHeartbeats 4000000 in
theorem itvNotS_3 (a b c d : Int) (w : World)  :
    Calls Try.prog 73 #[.int .i64 3, .agg #[.int .i64 a, .int .i64 b], .agg #[.int .i64 c, .int .i64 d]] w fun e w' => e = .returned (.tuple #[.agg #[.int .i64 (itvRel 4 a b c d).l0, .int .i64 (itvRel 4 a b c d).h0], .agg #[.int .i64 (itvRel 4 a b c d).l1, .int .i64 (itvRel 4 a b c d).h1], .bool (itvRel 4 a b c d).ok]) ∧ Below w.heap.size w w' := by
  go_enter Try.func73, Try.ntmps73
  go_wp2_with fail
  refine (itvRelS _ _ _ _ _ _).mono ?_
  rintro e w1 ⟨rfl, hB⟩
  have H1 := HeldL.next hB (held4 _ _ _ _ _ _ _ _ _ _)
  have c30 : w1.cell? ⟨w.heap.size + 1 + 1 + 1, 0, none⟩ = some (.int .i64 (0)) := H1.cell (e := (w.heap.size + 1 + 1 + 1, [.int .i64 (0), .int .i64 (0)])) (by simp) (i := 0) rfl
  have c31 : w1.cell? ⟨w.heap.size + 1 + 1 + 1, 1, none⟩ = some (.int .i64 (0)) := H1.cell (e := (w.heap.size + 1 + 1 + 1, [.int .i64 (0), .int .i64 (0)])) (by simp) (i := 1) rfl
  have c20 : w1.cell? ⟨w.heap.size + 1 + 1, 0, none⟩ = some (.int .i64 (0)) := H1.cell (e := (w.heap.size + 1 + 1, [.int .i64 (0), .int .i64 (0)])) (by simp) (i := 0) rfl
  have c21 : w1.cell? ⟨w.heap.size + 1 + 1, 1, none⟩ = some (.int .i64 (0)) := H1.cell (e := (w.heap.size + 1 + 1, [.int .i64 (0), .int .i64 (0)])) (by simp) (i := 1) rfl
  have c10 : w1.cell? ⟨w.heap.size + 1, 0, none⟩ = some (.int .i64 (c)) := H1.cell (e := (w.heap.size + 1, [.int .i64 (c), .int .i64 (d)])) (by simp) (i := 0) rfl
  have c11 : w1.cell? ⟨w.heap.size + 1, 1, none⟩ = some (.int .i64 (d)) := H1.cell (e := (w.heap.size + 1, [.int .i64 (c), .int .i64 (d)])) (by simp) (i := 1) rfl
  have c00 : w1.cell? ⟨w.heap.size, 0, none⟩ = some (.int .i64 (a)) := H1.cell (e := (w.heap.size, [.int .i64 (a), .int .i64 (b)])) (by simp) (i := 0) rfl
  have c01 : w1.cell? ⟨w.heap.size, 1, none⟩ = some (.int .i64 (b)) := H1.cell (e := (w.heap.size, [.int .i64 (a), .int .i64 (b)])) (by simp) (i := 1) rfl
  have f3 : ∀ i, w1.frozen? ⟨w.heap.size + 1 + 1 + 1, i, none⟩ = false := H1.free (w.heap.size + 1 + 1 + 1, [.int .i64 (0), .int .i64 (0)]) (by simp)
  have f2 : ∀ i, w1.frozen? ⟨w.heap.size + 1 + 1, i, none⟩ = false := H1.free (w.heap.size + 1 + 1, [.int .i64 (0), .int .i64 (0)]) (by simp)
  clear hB
  go_wp2_with fail
  all_goals (refine bodyPost_ret (v := .tuple #[.agg #[.int .i64 (itvRel 4 a b c d).l0, .int .i64 (itvRel 4 a b c d).h0], .agg #[.int .i64 (itvRel 4 a b c d).l1, .int .i64 (itvRel 4 a b c d).h1], .bool (itvRel 4 a b c d).ok]) (by simp [results, Try.results73, go_sem, cell_set, c20, c21, c30, c31]) rfl ⟨rfl, ?_⟩)
  all_goals repeat (first | exact H1.below | refine Below.drew ?_ | refine Below.setCell ?_ (by simp; try omega) _)

set_option maxRecDepth 10000 in
set_option maxHeartbeats 4000000 in
theorem itvNotS_4 (a b c d : Int) (w : World)  :
    Calls Try.prog 73 #[.int .i64 4, .agg #[.int .i64 a, .int .i64 b], .agg #[.int .i64 c, .int .i64 d]] w fun e w' => e = .returned (.tuple #[.agg #[.int .i64 (itvRel 3 a b c d).l0, .int .i64 (itvRel 3 a b c d).h0], .agg #[.int .i64 (itvRel 3 a b c d).l1, .int .i64 (itvRel 3 a b c d).h1], .bool (itvRel 3 a b c d).ok]) ∧ Below w.heap.size w w' := by
  go_enter Try.func73, Try.ntmps73
  go_wp2_with fail
  refine (itvRelS _ _ _ _ _ _).mono ?_
  rintro e w1 ⟨rfl, hB⟩
  have H1 := HeldL.next hB (held4 _ _ _ _ _ _ _ _ _ _)
  have c30 : w1.cell? ⟨w.heap.size + 1 + 1 + 1, 0, none⟩ = some (.int .i64 (0)) := H1.cell (e := (w.heap.size + 1 + 1 + 1, [.int .i64 (0), .int .i64 (0)])) (by simp) (i := 0) rfl
  have c31 : w1.cell? ⟨w.heap.size + 1 + 1 + 1, 1, none⟩ = some (.int .i64 (0)) := H1.cell (e := (w.heap.size + 1 + 1 + 1, [.int .i64 (0), .int .i64 (0)])) (by simp) (i := 1) rfl
  have c20 : w1.cell? ⟨w.heap.size + 1 + 1, 0, none⟩ = some (.int .i64 (0)) := H1.cell (e := (w.heap.size + 1 + 1, [.int .i64 (0), .int .i64 (0)])) (by simp) (i := 0) rfl
  have c21 : w1.cell? ⟨w.heap.size + 1 + 1, 1, none⟩ = some (.int .i64 (0)) := H1.cell (e := (w.heap.size + 1 + 1, [.int .i64 (0), .int .i64 (0)])) (by simp) (i := 1) rfl
  have c10 : w1.cell? ⟨w.heap.size + 1, 0, none⟩ = some (.int .i64 (c)) := H1.cell (e := (w.heap.size + 1, [.int .i64 (c), .int .i64 (d)])) (by simp) (i := 0) rfl
  have c11 : w1.cell? ⟨w.heap.size + 1, 1, none⟩ = some (.int .i64 (d)) := H1.cell (e := (w.heap.size + 1, [.int .i64 (c), .int .i64 (d)])) (by simp) (i := 1) rfl
  have c00 : w1.cell? ⟨w.heap.size, 0, none⟩ = some (.int .i64 (a)) := H1.cell (e := (w.heap.size, [.int .i64 (a), .int .i64 (b)])) (by simp) (i := 0) rfl
  have c01 : w1.cell? ⟨w.heap.size, 1, none⟩ = some (.int .i64 (b)) := H1.cell (e := (w.heap.size, [.int .i64 (a), .int .i64 (b)])) (by simp) (i := 1) rfl
  have f3 : ∀ i, w1.frozen? ⟨w.heap.size + 1 + 1 + 1, i, none⟩ = false := H1.free (w.heap.size + 1 + 1 + 1, [.int .i64 (0), .int .i64 (0)]) (by simp)
  have f2 : ∀ i, w1.frozen? ⟨w.heap.size + 1 + 1, i, none⟩ = false := H1.free (w.heap.size + 1 + 1, [.int .i64 (0), .int .i64 (0)]) (by simp)
  clear hB
  go_wp2_with fail
  all_goals (refine bodyPost_ret (v := .tuple #[.agg #[.int .i64 (itvRel 3 a b c d).l0, .int .i64 (itvRel 3 a b c d).h0], .agg #[.int .i64 (itvRel 3 a b c d).l1, .int .i64 (itvRel 3 a b c d).h1], .bool (itvRel 3 a b c d).ok]) (by simp [results, Try.results73, go_sem, cell_set, c20, c21, c30, c31]) rfl ⟨rfl, ?_⟩)
  all_goals repeat (first | exact H1.below | refine Below.drew ?_ | refine Below.setCell ?_ (by simp; try omega) _)

set_option maxRecDepth 10000 in
set_option maxHeartbeats 4000000 in
theorem itvNotS_1 (a b c d : Int) (w : World)  :
    Calls Try.prog 73 #[.int .i64 1, .agg #[.int .i64 a, .int .i64 b], .agg #[.int .i64 c, .int .i64 d]] w fun e w' => e = .returned (.tuple #[.agg #[.int .i64 ((itvRel 2 c d a b).swap).l0, .int .i64 ((itvRel 2 c d a b).swap).h0], .agg #[.int .i64 ((itvRel 2 c d a b).swap).l1, .int .i64 ((itvRel 2 c d a b).swap).h1], .bool ((itvRel 2 c d a b).swap).ok]) ∧ Below w.heap.size w w' := by
  go_enter Try.func73, Try.ntmps73
  go_wp2_with fail
  refine (itvRelS _ _ _ _ _ _).mono ?_
  rintro e w1 ⟨rfl, hB⟩
  have H1 := HeldL.next hB (held4 _ _ _ _ _ _ _ _ _ _)
  have c30 : w1.cell? ⟨w.heap.size + 1 + 1 + 1, 0, none⟩ = some (.int .i64 (0)) := H1.cell (e := (w.heap.size + 1 + 1 + 1, [.int .i64 (0), .int .i64 (0)])) (by simp) (i := 0) rfl
  have c31 : w1.cell? ⟨w.heap.size + 1 + 1 + 1, 1, none⟩ = some (.int .i64 (0)) := H1.cell (e := (w.heap.size + 1 + 1 + 1, [.int .i64 (0), .int .i64 (0)])) (by simp) (i := 1) rfl
  have c20 : w1.cell? ⟨w.heap.size + 1 + 1, 0, none⟩ = some (.int .i64 (0)) := H1.cell (e := (w.heap.size + 1 + 1, [.int .i64 (0), .int .i64 (0)])) (by simp) (i := 0) rfl
  have c21 : w1.cell? ⟨w.heap.size + 1 + 1, 1, none⟩ = some (.int .i64 (0)) := H1.cell (e := (w.heap.size + 1 + 1, [.int .i64 (0), .int .i64 (0)])) (by simp) (i := 1) rfl
  have c10 : w1.cell? ⟨w.heap.size + 1, 0, none⟩ = some (.int .i64 (c)) := H1.cell (e := (w.heap.size + 1, [.int .i64 (c), .int .i64 (d)])) (by simp) (i := 0) rfl
  have c11 : w1.cell? ⟨w.heap.size + 1, 1, none⟩ = some (.int .i64 (d)) := H1.cell (e := (w.heap.size + 1, [.int .i64 (c), .int .i64 (d)])) (by simp) (i := 1) rfl
  have c00 : w1.cell? ⟨w.heap.size, 0, none⟩ = some (.int .i64 (a)) := H1.cell (e := (w.heap.size, [.int .i64 (a), .int .i64 (b)])) (by simp) (i := 0) rfl
  have c01 : w1.cell? ⟨w.heap.size, 1, none⟩ = some (.int .i64 (b)) := H1.cell (e := (w.heap.size, [.int .i64 (a), .int .i64 (b)])) (by simp) (i := 1) rfl
  have f3 : ∀ i, w1.frozen? ⟨w.heap.size + 1 + 1 + 1, i, none⟩ = false := H1.free (w.heap.size + 1 + 1 + 1, [.int .i64 (0), .int .i64 (0)]) (by simp)
  have f2 : ∀ i, w1.frozen? ⟨w.heap.size + 1 + 1, i, none⟩ = false := H1.free (w.heap.size + 1 + 1, [.int .i64 (0), .int .i64 (0)]) (by simp)
  clear hB
  go_wp2_with fail
  obtain ⟨g, hg⟩ : ∃ g, g = w1.heap.size := ⟨_, rfl⟩
  have hgz : w.heap.size + 1 + 1 + 1 < g := by rw [hg]; exact H1.size (e := (w.heap.size + 1 + 1 + 1, [.int .i64 0, .int .i64 0])) (by simp)
  have H2 : HeldL w ((g + 1, [Value.int .i64 (itvRel 2 c d a b).l1, .int .i64 (itvRel 2 c d a b).h1]) :: (g, [Value.int .i64 (itvRel 2 c d a b).l0, .int .i64 (itvRel 2 c d a b).h0]) :: [(w.heap.size + 1 + 1 + 1, [Value.int .i64 (0), .int .i64 (0)]), (w.heap.size + 1 + 1, [Value.int .i64 (0), .int .i64 (0)]), (w.heap.size + 1, [Value.int .i64 (c), .int .i64 (d)]), (w.heap.size, [Value.int .i64 (a), .int .i64 (b)])]) ((w1.alloc (.cells #[Value.int .i64 (itvRel 2 c d a b).l0, .int .i64 (itvRel 2 c d a b).h0] 75)).alloc (.cells #[Value.int .i64 (itvRel 2 c d a b).l1, .int .i64 (itvRel 2 c d a b).h1] 75)) := by
    have e : g + 1 = (w1.alloc (.cells #[Value.int .i64 (itvRel 2 c d a b).l0, .int .i64 (itvRel 2 c d a b).h0] 75)).heap.size := by simp [hg]
    rw [e, hg]
    exact HeldL.new (HeldL.new H1)
  generalize (w1.alloc (.cells #[Value.int .i64 (itvRel 2 c d a b).l0, .int .i64 (itvRel 2 c d a b).h0] 75)).alloc (.cells #[Value.int .i64 (itvRel 2 c d a b).l1, .int .i64 (itvRel 2 c d a b).h1] 75) = wX at H2 ⊢
  rw [← hg]
  clear c00 c01 c10 c11 c20 c21 c30 c31 f2 f3 H1 hg
  have c20 : wX.cell? ⟨w.heap.size + 1 + 1, 0, none⟩ = some (.int .i64 0) := H2.cell (e := (w.heap.size + 1 + 1, [.int .i64 0, .int .i64 0])) (List.mem_cons_of_mem _ (List.mem_cons_of_mem _ (by simp))) (i := 0) rfl
  have c21 : wX.cell? ⟨w.heap.size + 1 + 1, 1, none⟩ = some (.int .i64 0) := H2.cell (e := (w.heap.size + 1 + 1, [.int .i64 0, .int .i64 0])) (List.mem_cons_of_mem _ (List.mem_cons_of_mem _ (by simp))) (i := 1) rfl
  have f2 : ∀ i, wX.frozen? ⟨w.heap.size + 1 + 1, i, none⟩ = false := H2.free (w.heap.size + 1 + 1, [.int .i64 0, .int .i64 0]) (List.mem_cons_of_mem _ (List.mem_cons_of_mem _ (by simp)))
  have c30 : wX.cell? ⟨w.heap.size + 1 + 1 + 1, 0, none⟩ = some (.int .i64 0) := H2.cell (e := (w.heap.size + 1 + 1 + 1, [.int .i64 0, .int .i64 0])) (List.mem_cons_of_mem _ (List.mem_cons_of_mem _ (by simp))) (i := 0) rfl
  have c31 : wX.cell? ⟨w.heap.size + 1 + 1 + 1, 1, none⟩ = some (.int .i64 0) := H2.cell (e := (w.heap.size + 1 + 1 + 1, [.int .i64 0, .int .i64 0])) (List.mem_cons_of_mem _ (List.mem_cons_of_mem _ (by simp))) (i := 1) rfl
  have f3 : ∀ i, wX.frozen? ⟨w.heap.size + 1 + 1 + 1, i, none⟩ = false := H2.free (w.heap.size + 1 + 1 + 1, [.int .i64 0, .int .i64 0]) (List.mem_cons_of_mem _ (List.mem_cons_of_mem _ (by simp)))
  have x0 : wX.cell? ⟨g + 1, 0, none⟩ = some (.int .i64 (itvRel 2 c d a b).l1) := H2.cell (e := (g + 1, [Value.int .i64 (itvRel 2 c d a b).l1, .int .i64 (itvRel 2 c d a b).h1])) List.mem_cons_self (i := 0) rfl
  have y0 : wX.cell? ⟨g, 0, none⟩ = some (.int .i64 (itvRel 2 c d a b).l0) := H2.cell (e := (g, [Value.int .i64 (itvRel 2 c d a b).l0, .int .i64 (itvRel 2 c d a b).h0])) (List.mem_cons_of_mem _ List.mem_cons_self) (i := 0) rfl
  have x1 : wX.cell? ⟨g + 1, 1, none⟩ = some (.int .i64 (itvRel 2 c d a b).h1) := H2.cell (e := (g + 1, [Value.int .i64 (itvRel 2 c d a b).l1, .int .i64 (itvRel 2 c d a b).h1])) List.mem_cons_self (i := 1) rfl
  have y1 : wX.cell? ⟨g, 1, none⟩ = some (.int .i64 (itvRel 2 c d a b).h0) := H2.cell (e := (g, [Value.int .i64 (itvRel 2 c d a b).l0, .int .i64 (itvRel 2 c d a b).h0])) (List.mem_cons_of_mem _ List.mem_cons_self) (i := 1) rfl
  have n0 : ¬ g = w.heap.size + 1 := by omega
  have n0' : ¬ w.heap.size + 1 = g := by omega
  have n1 : ¬ g = w.heap.size + 1 + 1 := by omega
  have n1' : ¬ w.heap.size + 1 + 1 = g := by omega
  have n2 : ¬ g = w.heap.size + 1 + 1 + 1 := by omega
  have n2' : ¬ w.heap.size + 1 + 1 + 1 = g := by omega
  go_region
  all_goals (go_wp2_with fail)
  all_goals (refine bodyPost_ret (v := .tuple #[.agg #[.int .i64 (itvRel 2 c d a b).l1, .int .i64 (itvRel 2 c d a b).h1], .agg #[.int .i64 (itvRel 2 c d a b).l0, .int .i64 (itvRel 2 c d a b).h0], .bool (itvRel 2 c d a b).ok]) (by simp [results, Try.results73, go_sem, cell_set, c20, c21, c30, c31]) rfl ⟨rfl, ?_⟩)
  all_goals repeat (first | exact H2.below | refine Below.drew ?_ | refine Below.setCell ?_ (by simp; try omega) _)

set_option maxRecDepth 10000 in
set_option maxHeartbeats 4000000 in
theorem itvNotS_2 (a b c d : Int) (w : World)  :
    Calls Try.prog 73 #[.int .i64 2, .agg #[.int .i64 a, .int .i64 b], .agg #[.int .i64 c, .int .i64 d]] w fun e w' => e = .returned (.tuple #[.agg #[.int .i64 ((itvRel 1 c d a b).swap).l0, .int .i64 ((itvRel 1 c d a b).swap).h0], .agg #[.int .i64 ((itvRel 1 c d a b).swap).l1, .int .i64 ((itvRel 1 c d a b).swap).h1], .bool ((itvRel 1 c d a b).swap).ok]) ∧ Below w.heap.size w w' := by
  go_enter Try.func73, Try.ntmps73
  go_wp2_with fail
  refine (itvRelS _ _ _ _ _ _).mono ?_
  rintro e w1 ⟨rfl, hB⟩
  have H1 := HeldL.next hB (held4 _ _ _ _ _ _ _ _ _ _)
  have c30 : w1.cell? ⟨w.heap.size + 1 + 1 + 1, 0, none⟩ = some (.int .i64 (0)) := H1.cell (e := (w.heap.size + 1 + 1 + 1, [.int .i64 (0), .int .i64 (0)])) (by simp) (i := 0) rfl
  have c31 : w1.cell? ⟨w.heap.size + 1 + 1 + 1, 1, none⟩ = some (.int .i64 (0)) := H1.cell (e := (w.heap.size + 1 + 1 + 1, [.int .i64 (0), .int .i64 (0)])) (by simp) (i := 1) rfl
  have c20 : w1.cell? ⟨w.heap.size + 1 + 1, 0, none⟩ = some (.int .i64 (0)) := H1.cell (e := (w.heap.size + 1 + 1, [.int .i64 (0), .int .i64 (0)])) (by simp) (i := 0) rfl
  have c21 : w1.cell? ⟨w.heap.size + 1 + 1, 1, none⟩ = some (.int .i64 (0)) := H1.cell (e := (w.heap.size + 1 + 1, [.int .i64 (0), .int .i64 (0)])) (by simp) (i := 1) rfl
  have c10 : w1.cell? ⟨w.heap.size + 1, 0, none⟩ = some (.int .i64 (c)) := H1.cell (e := (w.heap.size + 1, [.int .i64 (c), .int .i64 (d)])) (by simp) (i := 0) rfl
  have c11 : w1.cell? ⟨w.heap.size + 1, 1, none⟩ = some (.int .i64 (d)) := H1.cell (e := (w.heap.size + 1, [.int .i64 (c), .int .i64 (d)])) (by simp) (i := 1) rfl
  have c00 : w1.cell? ⟨w.heap.size, 0, none⟩ = some (.int .i64 (a)) := H1.cell (e := (w.heap.size, [.int .i64 (a), .int .i64 (b)])) (by simp) (i := 0) rfl
  have c01 : w1.cell? ⟨w.heap.size, 1, none⟩ = some (.int .i64 (b)) := H1.cell (e := (w.heap.size, [.int .i64 (a), .int .i64 (b)])) (by simp) (i := 1) rfl
  have f3 : ∀ i, w1.frozen? ⟨w.heap.size + 1 + 1 + 1, i, none⟩ = false := H1.free (w.heap.size + 1 + 1 + 1, [.int .i64 (0), .int .i64 (0)]) (by simp)
  have f2 : ∀ i, w1.frozen? ⟨w.heap.size + 1 + 1, i, none⟩ = false := H1.free (w.heap.size + 1 + 1, [.int .i64 (0), .int .i64 (0)]) (by simp)
  clear hB
  go_wp2_with fail
  obtain ⟨g, hg⟩ : ∃ g, g = w1.heap.size := ⟨_, rfl⟩
  have hgz : w.heap.size + 1 + 1 + 1 < g := by rw [hg]; exact H1.size (e := (w.heap.size + 1 + 1 + 1, [.int .i64 0, .int .i64 0])) (by simp)
  have H2 : HeldL w ((g + 1, [Value.int .i64 (itvRel 1 c d a b).l1, .int .i64 (itvRel 1 c d a b).h1]) :: (g, [Value.int .i64 (itvRel 1 c d a b).l0, .int .i64 (itvRel 1 c d a b).h0]) :: [(w.heap.size + 1 + 1 + 1, [Value.int .i64 (0), .int .i64 (0)]), (w.heap.size + 1 + 1, [Value.int .i64 (0), .int .i64 (0)]), (w.heap.size + 1, [Value.int .i64 (c), .int .i64 (d)]), (w.heap.size, [Value.int .i64 (a), .int .i64 (b)])]) ((w1.alloc (.cells #[Value.int .i64 (itvRel 1 c d a b).l0, .int .i64 (itvRel 1 c d a b).h0] 75)).alloc (.cells #[Value.int .i64 (itvRel 1 c d a b).l1, .int .i64 (itvRel 1 c d a b).h1] 75)) := by
    have e : g + 1 = (w1.alloc (.cells #[Value.int .i64 (itvRel 1 c d a b).l0, .int .i64 (itvRel 1 c d a b).h0] 75)).heap.size := by simp [hg]
    rw [e, hg]
    exact HeldL.new (HeldL.new H1)
  generalize (w1.alloc (.cells #[Value.int .i64 (itvRel 1 c d a b).l0, .int .i64 (itvRel 1 c d a b).h0] 75)).alloc (.cells #[Value.int .i64 (itvRel 1 c d a b).l1, .int .i64 (itvRel 1 c d a b).h1] 75) = wX at H2 ⊢
  rw [← hg]
  clear c00 c01 c10 c11 c20 c21 c30 c31 f2 f3 H1 hg
  have c20 : wX.cell? ⟨w.heap.size + 1 + 1, 0, none⟩ = some (.int .i64 0) := H2.cell (e := (w.heap.size + 1 + 1, [.int .i64 0, .int .i64 0])) (List.mem_cons_of_mem _ (List.mem_cons_of_mem _ (by simp))) (i := 0) rfl
  have c21 : wX.cell? ⟨w.heap.size + 1 + 1, 1, none⟩ = some (.int .i64 0) := H2.cell (e := (w.heap.size + 1 + 1, [.int .i64 0, .int .i64 0])) (List.mem_cons_of_mem _ (List.mem_cons_of_mem _ (by simp))) (i := 1) rfl
  have f2 : ∀ i, wX.frozen? ⟨w.heap.size + 1 + 1, i, none⟩ = false := H2.free (w.heap.size + 1 + 1, [.int .i64 0, .int .i64 0]) (List.mem_cons_of_mem _ (List.mem_cons_of_mem _ (by simp)))
  have c30 : wX.cell? ⟨w.heap.size + 1 + 1 + 1, 0, none⟩ = some (.int .i64 0) := H2.cell (e := (w.heap.size + 1 + 1 + 1, [.int .i64 0, .int .i64 0])) (List.mem_cons_of_mem _ (List.mem_cons_of_mem _ (by simp))) (i := 0) rfl
  have c31 : wX.cell? ⟨w.heap.size + 1 + 1 + 1, 1, none⟩ = some (.int .i64 0) := H2.cell (e := (w.heap.size + 1 + 1 + 1, [.int .i64 0, .int .i64 0])) (List.mem_cons_of_mem _ (List.mem_cons_of_mem _ (by simp))) (i := 1) rfl
  have f3 : ∀ i, wX.frozen? ⟨w.heap.size + 1 + 1 + 1, i, none⟩ = false := H2.free (w.heap.size + 1 + 1 + 1, [.int .i64 0, .int .i64 0]) (List.mem_cons_of_mem _ (List.mem_cons_of_mem _ (by simp)))
  have x0 : wX.cell? ⟨g + 1, 0, none⟩ = some (.int .i64 (itvRel 1 c d a b).l1) := H2.cell (e := (g + 1, [Value.int .i64 (itvRel 1 c d a b).l1, .int .i64 (itvRel 1 c d a b).h1])) List.mem_cons_self (i := 0) rfl
  have y0 : wX.cell? ⟨g, 0, none⟩ = some (.int .i64 (itvRel 1 c d a b).l0) := H2.cell (e := (g, [Value.int .i64 (itvRel 1 c d a b).l0, .int .i64 (itvRel 1 c d a b).h0])) (List.mem_cons_of_mem _ List.mem_cons_self) (i := 0) rfl
  have x1 : wX.cell? ⟨g + 1, 1, none⟩ = some (.int .i64 (itvRel 1 c d a b).h1) := H2.cell (e := (g + 1, [Value.int .i64 (itvRel 1 c d a b).l1, .int .i64 (itvRel 1 c d a b).h1])) List.mem_cons_self (i := 1) rfl
  have y1 : wX.cell? ⟨g, 1, none⟩ = some (.int .i64 (itvRel 1 c d a b).h0) := H2.cell (e := (g, [Value.int .i64 (itvRel 1 c d a b).l0, .int .i64 (itvRel 1 c d a b).h0])) (List.mem_cons_of_mem _ List.mem_cons_self) (i := 1) rfl
  have n0 : ¬ g = w.heap.size + 1 := by omega
  have n0' : ¬ w.heap.size + 1 = g := by omega
  have n1 : ¬ g = w.heap.size + 1 + 1 := by omega
  have n1' : ¬ w.heap.size + 1 + 1 = g := by omega
  have n2 : ¬ g = w.heap.size + 1 + 1 + 1 := by omega
  have n2' : ¬ w.heap.size + 1 + 1 + 1 = g := by omega
  go_region
  all_goals (go_wp2_with fail)
  all_goals (refine bodyPost_ret (v := .tuple #[.agg #[.int .i64 (itvRel 1 c d a b).l1, .int .i64 (itvRel 1 c d a b).h1], .agg #[.int .i64 (itvRel 1 c d a b).l0, .int .i64 (itvRel 1 c d a b).h0], .bool (itvRel 1 c d a b).ok]) (by simp [results, Try.results73, go_sem, cell_set, c20, c21, c30, c31]) rfl ⟨rfl, ?_⟩)
  all_goals repeat (first | exact H2.below | refine Below.drew ?_ | refine Below.setCell ?_ (by simp; try omega) _)

theorem itvNotS (rel a b c d : Int) (w : World) :
    Calls Try.prog 73 #[.int .i64 rel, .agg #[.int .i64 a, .int .i64 b], .agg #[.int .i64 c, .int .i64 d]] w fun e w' => e = .returned (.tuple #[.agg #[.int .i64 (itvNot rel a b c d).l0, .int .i64 (itvNot rel a b c d).h0], .agg #[.int .i64 (itvNot rel a b c d).l1, .int .i64 (itvNot rel a b c d).h1], .bool (itvNot rel a b c d).ok]) ∧ Below w.heap.size w w' := by
  by_cases h1 : rel = 1
  · subst h1
    have k : itvNot 1 a b c d = (itvRel 2 c d a b).swap := by simp [itvNot]
    rw [k]; exact itvNotS_1 a b c d w
  by_cases h2 : rel = 2
  · subst h2
    have k : itvNot 2 a b c d = (itvRel 1 c d a b).swap := by simp [itvNot]
    rw [k]; exact itvNotS_2 a b c d w
  by_cases h3 : rel = 3
  · subst h3
    have k : itvNot 3 a b c d = itvRel 4 a b c d := by simp [itvNot]
    rw [k]; exact itvNotS_3 a b c d w
  by_cases h4 : rel = 4
  · subst h4
    have k : itvNot 4 a b c d = itvRel 3 a b c d := by simp [itvNot]
    rw [k]; exact itvNotS_4 a b c d w
  · have k : itvNot rel a b c d = ⟨0, 0, 0, 0, false⟩ := by simp [itvNot, h1, h2, h3, h4, Two.none]
    rw [k]; exact itvNotS_no rel a b c d w h1 h2 h3 h4
end Go.Proofs.Ytdpkbbbfnmneiaa
