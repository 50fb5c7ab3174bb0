/- Folding: the model's (S). -/
import Derived.Test.YtceanngbcolbaaaItv
import Derived.WalkKit
import Derived.ProofKit
import Derived.OpenShut
import Derived.Below
namespace Go.Proofs.Ytceanngbcolbaaa
open Go.ChangeShapes Go.WideShapes Go.ChangeAt Go.RowKit

theorem turnS (n : Int) (w : World) (h1 : -1099511627776 ≤ n) (h2 : n ≤ 1099511627776) :
    Calls Try.prog 57 #[.int .i64 n] w fun e w' => e = .returned (.int .i64 (turn n)) ∧ w' = w := by
  by_cases h : 0 ≤ n + 32768
  · have hd := turn_pos _ h
    have hm := tm_pos _ h
    go_enter Try.func57, Try.ntmps57
    go_wp2
    all_goals go_ret
    all_goals refine ⟨ret_int ?_, rfl⟩
    all_goals unfold turn
    all_goals omega
  · have hd := turn_neg (n + 32768) (by omega)
    have hm := tm_neg (n + 32768) (by omega)
    go_enter Try.func57, Try.ntmps57
    go_wp2
    all_goals go_ret
    all_goals refine ⟨ret_int ?_, rfl⟩
    all_goals unfold turn
    all_goals omega

theorem farS (n : Int) (w : World) :
    Calls Try.prog 56 #[.int .i64 n, .int .i64 (-1099511627776), .int .i64 1099511627776] w fun e w' => e = .returned (.bool (far n)) ∧ w' = w := inS1 _ _ _ _
theorem far_lo {n : Int} (h : far n = true) : -1099511627776 ≤ n := by simp [far] at h; omega
theorem far_hi {n : Int} (h : far n = true) : n ≤ 1099511627776 := by simp [far] at h; omega

set_option maxHeartbeats 1000000 in
theorem foldS (lo hi : Int) (w : World) :
    Calls Try.prog 38 #[.int .i64 lo, .int .i64 hi] w fun e w' => e = .returned (.agg #[.int .i64 (foldLo lo hi), .int .i64 (foldHi lo hi)]) ∧ Below w.heap.size w w' := by
  rcases Bool.eq_false_or_eq_true (far lo) with f1 | f1
  case inr =>
    have x : foldLo lo hi = 0 := by simp [foldLo, foldOk, f1]
    have y : foldHi lo hi = 0 := by simp [foldHi, foldOk, f1]
    rw [x, y]
    go_enter Try.func38, Try.ntmps38
    go_wp2_with (first | (go_at_call 56; refine (farS _ _).mono ?_; rintro e w' ⟨rfl, rfl⟩) | (go_at_call 57; refine (turnS _ _ (by assumption) (by assumption)).mono ?_; rintro e w' ⟨rfl, rfl⟩) | (go_at_call 59; refine (wrapS _ _).mono ?_; rintro e w' ⟨rfl, rfl⟩))
    refine bodyPost_ret (v := .agg #[.int .i64 (0), .int .i64 (0)]) (by simp [results, Try.results38, go_sem]) rfl ⟨rfl, ?_⟩
    repeat (first | exact Below.refl _ _ | refine Below.drew ?_ | refine Below.alloc ?_ (by simp; try omega) _ | refine Below.setCell ?_ (by simp; try omega) _)
  rcases Bool.eq_false_or_eq_true (far hi) with f2 | f2
  case inr =>
    have x : foldLo lo hi = 0 := by simp [foldLo, foldOk, f2]
    have y : foldHi lo hi = 0 := by simp [foldHi, foldOk, f2]
    rw [x, y]
    go_enter Try.func38, Try.ntmps38
    go_wp2_with (first | (go_at_call 56; refine (farS _ _).mono ?_; rintro e w' ⟨rfl, rfl⟩) | (go_at_call 57; refine (turnS _ _ (by assumption) (by assumption)).mono ?_; rintro e w' ⟨rfl, rfl⟩) | (go_at_call 59; refine (wrapS _ _).mono ?_; rintro e w' ⟨rfl, rfl⟩))
    refine bodyPost_ret (v := .agg #[.int .i64 (0), .int .i64 (0)]) (by simp [results, Try.results38, go_sem]) rfl ⟨rfl, ?_⟩
    repeat (first | exact Below.refl _ _ | refine Below.drew ?_ | refine Below.alloc ?_ (by simp; try omega) _ | refine Below.setCell ?_ (by simp; try omega) _)
  have l1 := far_lo f1
  have l2 := far_hi f1
  have l3 := far_lo f2
  have l4 := far_hi f2
  by_cases h : lo ≤ hi
  case neg =>
    have x : foldLo lo hi = 0 := by simp [foldLo, foldOk]; omega
    have y : foldHi lo hi = 0 := by simp [foldHi, foldOk]; omega
    rw [x, y]
    go_enter Try.func38, Try.ntmps38
    go_wp2_with (first | (go_at_call 56; refine (farS _ _).mono ?_; rintro e w' ⟨rfl, rfl⟩) | (go_at_call 57; refine (turnS _ _ (by assumption) (by assumption)).mono ?_; rintro e w' ⟨rfl, rfl⟩) | (go_at_call 59; refine (wrapS _ _).mono ?_; rintro e w' ⟨rfl, rfl⟩))
    refine bodyPost_ret (v := .agg #[.int .i64 (0), .int .i64 (0)]) (by simp [results, Try.results38, go_sem]) rfl ⟨rfl, ?_⟩
    repeat (first | exact Below.refl _ _ | refine Below.drew ?_ | refine Below.alloc ?_ (by simp; try omega) _ | refine Below.setCell ?_ (by simp; try omega) _)
  by_cases ht : turn lo = turn hi
  · have x : foldLo lo hi = wr lo := by simp [foldLo, foldOk, f1, f2, h, ht]
    have y : foldHi lo hi = wr hi := by simp [foldHi, foldOk, f1, f2, h, ht]
    have g : (turn lo == turn hi) = true := by simpa using ht
    clear ht
    rw [x, y]
    go_enter Try.func38, Try.ntmps38
    go_wp2_with (first | (go_at_call 56; refine (farS _ _).mono ?_; rintro e w' ⟨rfl, rfl⟩) | (go_at_call 57; refine (turnS _ _ (by assumption) (by assumption)).mono ?_; rintro e w' ⟨rfl, rfl⟩) | (go_at_call 59; refine (wrapS _ _).mono ?_; rintro e w' ⟨rfl, rfl⟩))
    refine bodyPost_ret (v := .agg #[.int .i64 (wr lo), .int .i64 (wr hi)]) (by simp [results, Try.results38, go_sem]) rfl ⟨rfl, ?_⟩
    repeat (first | exact Below.refl _ _ | refine Below.drew ?_ | refine Below.alloc ?_ (by simp; try omega) _ | refine Below.setCell ?_ (by simp; try omega) _)
  · have x : foldLo lo hi = -32768 := by simp [foldLo, foldOk, f1, f2, h, ht]
    have y : foldHi lo hi = 32767 := by simp [foldHi, foldOk, f1, f2, h, ht]
    have g : (turn lo == turn hi) = false := by simpa using ht
    rw [x, y]
    go_enter Try.func38, Try.ntmps38
    go_wp2_with (first | (go_at_call 56; refine (farS _ _).mono ?_; rintro e w' ⟨rfl, rfl⟩) | (go_at_call 57; refine (turnS _ _ (by assumption) (by assumption)).mono ?_; rintro e w' ⟨rfl, rfl⟩) | (go_at_call 59; refine (wrapS _ _).mono ?_; rintro e w' ⟨rfl, rfl⟩))
    refine (itvAllS _).mono ?_
    rintro e w1 ⟨rfl, hb⟩
    have b1 := ((Below.refl w.heap.size w).alloc (Nat.le_refl _) _).trans (hb.mono (by simp))
    obtain ⟨hc, hf⟩ := bcell hb
    obtain ⟨e0, e1⟩ := own2 (W := w1) (B := w.heap.size) (u := .int .i64 0) (v := .int .i64 0) (by rw [hc w.heap.size 0 (by simp)]; simp [go_sem]) (by rw [hc w.heap.size 1 (by simp)]; simp [go_sem])
    go_wp2_with fail
    refine bodyPost_ret (v := .agg #[.int .i64 (-32768), .int .i64 32767]) (by simp [results, Try.results38, go_sem, e0, e1]) rfl ⟨rfl, ?_⟩
    repeat (first | exact b1 | refine Below.setCell ?_ (by simp; try omega) _)
end Go.Proofs.Ytceanngbcolbaaa
