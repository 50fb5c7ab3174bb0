/- What of both can stand so to the other, in parts: the model's (S). -/
import Derived.Test.YtdpkbbbfnmneiaaItv
import Derived.WalkKit
import Derived.ProofKit
import Derived.OpenShut
import Derived.Below
import Derived.Deep.RegionHeld3
import Derived.Deep.DeepCutAuto
namespace Go.Proofs.Ytdpkbbbfnmneiaa
open Go.ChangeShapes Go.WideShapes Go.ChangeAt Go.RowKit

set_option maxHeartbeats 2000000 in
theorem bothS (a b c d : Int) (w : World) :
    Calls Try.prog 120 #[.agg #[.int .i64 a, .int .i64 b], .agg #[.int .i64 c, .int .i64 d]] w fun e w' => e = .returned (.tuple #[.agg #[.int .i64 (both a b c d).l0, .int .i64 (both a b c d).h0], .agg #[.int .i64 (both a b c d).l1, .int .i64 (both a b c d).h1], .bool (both a b c d).ok]) ∧ Below w.heap.size w w' := by
  by_cases h1 : a ≤ b
  · by_cases h2 : c ≤ d
    · have k : both a b c d = ⟨a, b, c, d, true⟩ := by rw [both, if_pos ⟨h1, h2⟩]
      rw [k]
      clear k
      go_enter Try.func120, Try.ntmps120
      go_wp2_with fail
      go_region
      all_goals (go_wp2_with fail)
      refine bodyPost_ret (v := .tuple #[.agg #[.int .i64 a, .int .i64 b], .agg #[.int .i64 c, .int .i64 d], .bool true]) (by simp [results, Try.results120, go_sem]) rfl ⟨rfl, ?_⟩
      repeat (first | exact Below.refl _ _ | refine Below.drew ?_ | refine Below.alloc ?_ (by simp; try omega) _ | refine Below.setCell ?_ (by simp; try omega) _)
    · have k : both a b c d = ⟨0, 0, 0, 0, false⟩ := by rw [both, if_neg (by omega)]; rfl
      rw [k]
      clear k
      go_enter Try.func120, Try.ntmps120
      go_wp2_with fail
      refine bodyPost_ret (v := .tuple #[.agg #[.int .i64 0, .int .i64 0], .agg #[.int .i64 0, .int .i64 0], .bool false]) (by simp [results, Try.results120, go_sem]) rfl ⟨rfl, ?_⟩
      repeat (first | exact Below.refl _ _ | refine Below.drew ?_ | refine Below.alloc ?_ (by simp; try omega) _ | refine Below.setCell ?_ (by simp; try omega) _)
  · have k : both a b c d = ⟨0, 0, 0, 0, false⟩ := by rw [both, if_neg (by omega)]; rfl
    rw [k]
    clear k
    go_enter Try.func120, Try.ntmps120
    go_wp2_with fail
    refine bodyPost_ret (v := .tuple #[.agg #[.int .i64 0, .int .i64 0], .agg #[.int .i64 0, .int .i64 0], .bool false]) (by simp [results, Try.results120, go_sem]) rfl ⟨rfl, ?_⟩
    repeat (first | exact Below.refl _ _ | refine Below.drew ?_ | refine Below.alloc ?_ (by simp; try omega) _ | refine Below.setCell ?_ (by simp; try omega) _)

set_option maxHeartbeats 2000000 in
theorem cutS (a b n : Int) (w : World) (hn : okB n = true) :
    Calls Try.prog 127 #[.agg #[.int .i64 a, .int .i64 b], .int .i64 n] w fun e w' => e = .returned (.tuple #[.agg #[.int .i64 (cutLo a b n), .int .i64 (cutHi a b n)], .bool (cutOk a b n)]) ∧ Below w.heap.size w w' := by
  have l1 := ok_lo hn
  have l2 := ok_hi hn
  clear hn
  by_cases h1 : a = n
  · by_cases h2 : b = n
    · have g1 : (a == n) = true := by simpa using h1
      have g2 : (b == n) = true := by simpa using h2
      have k1 : cutOk a b n = false := by simp [cutOk, g1, g2]
      have k2 : cutLo a b n = 0 := by simp [cutLo, k1]
      have k3 : cutHi a b n = 0 := by simp [cutHi, k1]
      rw [k1, k2, k3]
      clear k1 k2 k3
      go_enter Try.func127, Try.ntmps127
      go_wp2_with fail
      refine bodyPost_ret (v := .tuple #[.agg #[.int .i64 (0), .int .i64 (0)], .bool false]) (by simp [results, Try.results127, go_sem]) rfl ⟨rfl, ?_⟩
      repeat (first | exact Below.refl _ _ | refine Below.drew ?_ | refine Below.alloc ?_ (by simp; try omega) _ | refine Below.setCell ?_ (by simp; try omega) _)
    · have g1 : (a == n) = true := by simpa using h1
      have g2 : (b == n) = false := by simpa using h2
      have k1 : cutOk a b n = true := by simp [cutOk, g1, g2]
      have k2 : cutLo a b n = n + 1 := by rw [cutLo, if_pos k1, if_pos h1]
      have k3 : cutHi a b n = b := by rw [cutHi, if_pos k1, if_neg h2]
      rw [k1, k2, k3]
      clear k1 k2 k3
      go_enter Try.func127, Try.ntmps127
      go_wp2_with fail
      refine bodyPost_ret (v := .tuple #[.agg #[.int .i64 (n + 1), .int .i64 (b)], .bool true]) (by simp [results, Try.results127, go_sem]) rfl ⟨rfl, ?_⟩
      repeat (first | exact Below.refl _ _ | refine Below.drew ?_ | refine Below.alloc ?_ (by simp; try omega) _ | refine Below.setCell ?_ (by simp; try omega) _)
  · by_cases h2 : b = n
    · have g1 : (a == n) = false := by simpa using h1
      have g2 : (b == n) = true := by simpa using h2
      have k1 : cutOk a b n = true := by simp [cutOk, g1, g2]
      have k2 : cutLo a b n = a := by rw [cutLo, if_pos k1, if_neg h1]
      have k3 : cutHi a b n = n - 1 := by rw [cutHi, if_pos k1, if_pos h2]
      rw [k1, k2, k3]
      clear k1 k2 k3
      go_enter Try.func127, Try.ntmps127
      go_wp2_with fail
      refine bodyPost_ret (v := .tuple #[.agg #[.int .i64 (a), .int .i64 (n - 1)], .bool true]) (by simp [results, Try.results127, go_sem]) rfl ⟨rfl, ?_⟩
      repeat (first | exact Below.refl _ _ | refine Below.drew ?_ | refine Below.alloc ?_ (by simp; try omega) _ | refine Below.setCell ?_ (by simp; try omega) _)
    · have g1 : (a == n) = false := by simpa using h1
      have g2 : (b == n) = false := by simpa using h2
      have k1 : cutOk a b n = true := by simp [cutOk, g1, g2]
      have k2 : cutLo a b n = a := by rw [cutLo, if_pos k1, if_neg h1]
      have k3 : cutHi a b n = b := by rw [cutHi, if_pos k1, if_neg h2]
      rw [k1, k2, k3]
      clear k1 k2 k3
      go_enter Try.func127, Try.ntmps127
      go_wp2_with fail
      refine bodyPost_ret (v := .tuple #[.agg #[.int .i64 (a), .int .i64 (b)], .bool true]) (by simp [results, Try.results127, go_sem]) rfl ⟨rfl, ?_⟩
      repeat (first | exact Below.refl _ _ | refine Below.drew ?_ | refine Below.alloc ?_ (by simp; try omega) _ | refine Below.setCell ?_ (by simp; try omega) _)
end Go.Proofs.Ytdpkbbbfnmneiaa
