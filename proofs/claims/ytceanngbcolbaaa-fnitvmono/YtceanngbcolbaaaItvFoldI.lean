/- Folding: the program's (I). -/
import Derived.Test.YtceanngbcolbaaaItvI
import Derived.WalkKit
import Derived.ProofKit
import Derived.OpenShut
import Derived.Below
namespace Go.Proofs.Ytceanngbcolbaaa
open Go.ChangeShapes Go.WideShapes Go.ChangeAt Go.RowKit

theorem off_turn (n : Int) : n - wr n = 65536 * turn n := by unfold wr turn; omega
theorem wr_lo (n : Int) : -32768 ≤ wr n := by unfold wr; omega
theorem wr_hi (n : Int) : wr n ≤ 32767 := by unfold wr; omega

set_option maxHeartbeats 1000000 in
theorem foldI (lo hi : Int) (w : World) :
    Calls Try.prog 35 #[.int .i64 lo, .int .i64 hi] w fun e w' => e = .returned (.agg #[.int .i64 (foldLo lo hi), .int .i64 (foldHi lo hi)]) ∧ Below w.heap.size w w' := by
  by_cases h1 : -1099511627776 ≤ lo
  case neg =>
    have x : foldLo lo hi = 0 := by simp [foldLo, foldOk, far]; omega
    have y : foldHi lo hi = 0 := by simp [foldHi, foldOk, far]; omega
    rw [x, y]
    go_enter Try.func35, Try.ntmps35
    go_wp2_with fail
    refine bodyPost_ret (v := .agg #[.int .i64 (0), .int .i64 (0)]) (by simp [results, Try.results35, go_sem]) rfl ⟨rfl, ?_⟩
    repeat (first | exact Below.refl _ _ | refine Below.drew ?_ | refine Below.alloc ?_ (by simp; try omega) _ | refine Below.setCell ?_ (by simp; try omega) _)
  by_cases h2 : hi ≤ 1099511627776
  case neg =>
    have x : foldLo lo hi = 0 := by simp [foldLo, foldOk, far]; omega
    have y : foldHi lo hi = 0 := by simp [foldHi, foldOk, far]; omega
    rw [x, y]
    go_enter Try.func35, Try.ntmps35
    go_wp2_with fail
    refine bodyPost_ret (v := .agg #[.int .i64 (0), .int .i64 (0)]) (by simp [results, Try.results35, go_sem]) rfl ⟨rfl, ?_⟩
    repeat (first | exact Below.refl _ _ | refine Below.drew ?_ | refine Below.alloc ?_ (by simp; try omega) _ | refine Below.setCell ?_ (by simp; try omega) _)
  by_cases h : lo ≤ hi
  case neg =>
    have x : foldLo lo hi = 0 := by simp [foldLo, foldOk]; omega
    have y : foldHi lo hi = 0 := by simp [foldHi, foldOk]; omega
    rw [x, y]
    go_enter Try.func35, Try.ntmps35
    go_wp2_with fail
    refine bodyPost_ret (v := .agg #[.int .i64 (0), .int .i64 (0)]) (by simp [results, Try.results35, go_sem]) rfl ⟨rfl, ?_⟩
    repeat (first | exact Below.refl _ _ | refine Below.drew ?_ | refine Below.alloc ?_ (by simp; try omega) _ | refine Below.setCell ?_ (by simp; try omega) _)
  have fo : foldOk lo hi = true := by simp [foldOk, far]; omega
  have t1 := off_turn lo
  have t2 := off_turn hi
  have r1 := wr_lo lo
  have r2 := wr_hi lo
  have r3 := wr_lo hi
  have r4 := wr_hi hi
  by_cases ht : turn lo = turn hi
  · have x : foldLo lo hi = wr lo := by simp [foldLo, fo, ht]
    have y : foldHi lo hi = wr hi := by simp [foldHi, fo, ht]
    have g : (lo - wr lo == hi - wr hi) = true := by simp; omega
    clear ht t1 t2
    rw [x, y]
    go_enter Try.func35, Try.ntmps35
    go_wp2_with (go_at_call 54; refine (wrapI _ _).mono ?_; rintro e w' ⟨rfl, rfl⟩)
    refine bodyPost_ret (v := .agg #[.int .i64 (wr lo), .int .i64 (wr hi)]) (by simp [results, Try.results35, go_sem]) rfl ⟨rfl, ?_⟩
    repeat (first | exact Below.refl _ _ | refine Below.drew ?_ | refine Below.alloc ?_ (by simp; try omega) _ | refine Below.setCell ?_ (by simp; try omega) _)
  · have x : foldLo lo hi = -32768 := by simp [foldLo, fo, ht]
    have y : foldHi lo hi = 32767 := by simp [foldHi, fo, ht]
    have g : (lo - wr lo == hi - wr hi) = false := by simp; omega
    rw [x, y]
    go_enter Try.func35, Try.ntmps35
    go_wp2_with (go_at_call 54; refine (wrapI _ _).mono ?_; rintro e w' ⟨rfl, rfl⟩)
    refine (itvAllI _).mono ?_
    rintro e w1 ⟨rfl, hb⟩
    have b1 := (((Below.refl w.heap.size w).alloc (Nat.le_refl _) _).alloc (by simp) _).trans (hb.mono (by simp; omega))
    obtain ⟨hc, hf⟩ := bcell hb
    obtain ⟨e0, e1⟩ := own2 (W := w1) (B := w.heap.size) (u := .int .i64 0) (v := .int .i64 0) (by rw [hc w.heap.size 0 (by simp; omega)]; simp [go_sem]) (by rw [hc w.heap.size 1 (by simp; omega)]; simp [go_sem])
    go_wp2_with fail
    refine bodyPost_ret (v := .agg #[.int .i64 (-32768), .int .i64 32767]) (by simp [results, Try.results35, go_sem, e0, e1]) rfl ⟨rfl, ?_⟩
    repeat (first | exact b1 | refine Below.setCell ?_ (by simp; try omega) _)
end Go.Proofs.Ytceanngbcolbaaa
