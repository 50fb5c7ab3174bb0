/- A call begun: the model's l5Enter, the program's newCall. -/
import Derived.Test.YtndedplmcjfgeaaRunIs
import Derived.Test.YtndedplmcjfgeaaPlainIns
import Derived.Test.YtndedplmcjfgeaaGrfQ
import Derived.Deep.DeepCutAuto
namespace Go.Proofs.Ytndedplmcjfgeaa
open Go.ChangeShapes Go.WideShapes Go.ChangeAt Go.RowKit

/-- The first variable is what the procedure was given. -/
def entZ (arg : Int) (j : Nat) : Int := if j = 0 then arg else 0
def EnterF (proc arg : Int) : Frm := ⟨proc, 0, 4, entZ arg, 4, fun _ => 0⟩
/-- Such a call, made behind B. -/
def EnterMade (B : Nat) (proc arg : Int) (v : Value) (W : World) : Prop := ∃ g g', v = .agg #[.int .i64 proc, .int .i64 0, .slice (some ⟨g, 0, none⟩) 4 4, .slice (some ⟨g', 0, none⟩) 4 4] ∧ B ≤ g ∧ g < W.heap.size ∧ B ≤ g' ∧ g' < W.heap.size ∧ g ≠ g' ∧ IntsAt (some ⟨g, 0, none⟩) g 0 4 (entZ arg) W ∧ IntsAt (some ⟨g', 0, none⟩) g' 0 4 (fun _ => 0) W ∧ (∀ j, W.frozen? ⟨g, j, none⟩ = false) ∧ ∀ j, W.frozen? ⟨g', j, none⟩ = false
theorem ints4 {W : World} {g : Nat} {z : Nat → Int} (hg : g < W.heap.size) (h0 : W.cell? ⟨g, 0, none⟩ = some (.int .i64 (z 0))) (h1 : W.cell? ⟨g, 1, none⟩ = some (.int .i64 (z 1))) (h2 : W.cell? ⟨g, 2, none⟩ = some (.int .i64 (z 2))) (h3 : W.cell? ⟨g, 3, none⟩ = some (.int .i64 (z 3))) : IntsAt (some ⟨g, 0, none⟩) g 0 4 z W :=
  ⟨fun _ => rfl, fun _ => hg, fun k hk => by
    rw [Nat.zero_add]
    rcases (show k = 0 ∨ k = 1 ∨ k = 2 ∨ k = 3 by omega) with rfl | rfl | rfl | rfl <;> assumption⟩

set_option maxHeartbeats 4000000 in
theorem enterS (proc arg : Int) (w : World) :
    Calls Try.prog 55 #[.int .i64 proc, .int .i64 arg] w fun e w' => ∃ v, e = .returned v ∧ EnterMade w.heap.size proc arg v w' ∧ Below w.heap.size w w' := by
  go_enter Try.func55, Try.ntmps55
  go_wp2_with fail
  refine bodyPost_ret (v := .agg #[.int .i64 proc, .int .i64 0, .slice (some ⟨w.heap.size + 1, 0, none⟩) 4 4, .slice (some ⟨w.heap.size + 1 + 1, 0, none⟩) 4 4]) (by simp [results, Try.results55, go_sem]) rfl ⟨_, rfl, ⟨_, _, rfl, ?_, ?_, ?_, ?_, ?_, ints4 ?_ ?_ ?_ ?_ ?_, ints4 ?_ ?_ ?_ ?_ ?_, fun j => ?_, fun j => ?_⟩, ?_⟩
  all_goals first | omega | (simp; done) | (simp [World.setCell]; omega) | (simp [World.setCell]; done) | (simp [go_sem, entZ]; done) | (repeat (first | exact Below.refl _ _ | refine Below.setCell ?_ (by simp; try omega) _ | refine Below.alloc ?_ (by simp; try omega) _))

set_option maxHeartbeats 8000000 in
theorem newCallI (proc arg : Int) (w : World) :
    Calls Try.prog 57 #[.int .i64 proc, .int .i64 arg] w fun e w' => ∃ v, e = .returned v ∧ EnterMade w.heap.size proc arg v w' ∧ Below w.heap.size w w' := by
  have hmk : ∀ W, (Instr.makeSlice 55 (.int .i64 4) (.int .i64 4)).run Try.prog W = .ok (.slice (some ⟨W.heap.size, 0, none⟩) 4 4) (W.alloc (.cells #[.int .i64 0, .int .i64 0, .int .i64 0, .int .i64 0] 3)) := fun W => by
    have h := make_rows (P := Try.prog) 55 3 (.int .i64 0) 1 8 Try.underlying55 (by kernel_rfl) 4 (by omega) (by omega) W
    have e : madeCells (Value.int .i64 0).cells (4 * 1) = #[.int .i64 0, .int .i64 0, .int .i64 0, .int .i64 0] := by kernel_rfl
    rw [e] at h
    exact h
  go_enter Try.func57, Try.ntmps57
  go_wp2_with fail
  go_region
  · go_wp2_with fail
    refine bodyPost_ret (v := .agg #[.int .i64 proc, .int .i64 0, .slice (some ⟨w.heap.size + 1, 0, none⟩) 4 4, .slice (some ⟨w.heap.size + 1 + 1, 0, none⟩) 4 4]) (by simp [results, Try.results57, go_sem]) rfl ⟨_, rfl, ⟨_, _, rfl, ?_, ?_, ?_, ?_, ?_, ints4 ?_ ?_ ?_ ?_ ?_, ints4 ?_ ?_ ?_ ?_ ?_, fun j => ?_, fun j => ?_⟩, ?_⟩
    all_goals first | omega | (simp; done) | (simp; omega) | (simp [go_sem, entZ]; done) | (repeat (first | exact Below.refl _ _ | refine Below.setCell ?_ (by simp; try omega) _ | refine Below.drew ?_ | refine Below.alloc ?_ (by simp; try omega) _))
  · go_wp2_with fail
    refine bodyPost_ret (v := .agg #[.int .i64 proc, .int .i64 0, .slice (some ⟨w.heap.size + 1, 0, none⟩) 4 4, .slice (some ⟨w.heap.size + 1 + 1 + 1, 0, none⟩) 4 4]) (by simp [results, Try.results57, go_sem]) rfl ⟨_, rfl, ⟨_, _, rfl, ?_, ?_, ?_, ?_, ?_, ints4 ?_ ?_ ?_ ?_ ?_, ints4 ?_ ?_ ?_ ?_ ?_, fun j => ?_, fun j => ?_⟩, ?_⟩
    all_goals first | omega | (simp; done) | (simp; omega) | (simp [go_sem, entZ]; done) | (repeat (first | exact Below.refl _ _ | refine Below.setCell ?_ (by simp; try omega) _ | refine Below.drew ?_ | refine Below.alloc ?_ (by simp; try omega) _))
  · go_wp2_with fail
    refine bodyPost_ret (v := .agg #[.int .i64 proc, .int .i64 0, .slice (some ⟨w.heap.size + 1 + 1, 0, none⟩) 4 4, .slice (some ⟨w.heap.size + 1, 0, none⟩) 4 4]) (by simp [results, Try.results57, go_sem]) rfl ⟨_, rfl, ⟨_, _, rfl, ?_, ?_, ?_, ?_, ?_, ints4 ?_ ?_ ?_ ?_ ?_, ints4 ?_ ?_ ?_ ?_ ?_, fun j => ?_, fun j => ?_⟩, ?_⟩
    all_goals first | omega | (simp; done) | (simp; omega) | (simp [go_sem, entZ]; done) | (repeat (first | exact Below.refl _ _ | refine Below.setCell ?_ (by simp; try omega) _ | refine Below.drew ?_ | refine Below.alloc ?_ (by simp; try omega) _))
  · go_wp2_with fail
    refine bodyPost_ret (v := .agg #[.int .i64 proc, .int .i64 0, .slice (some ⟨w.heap.size + 1 + 1 + 1, 0, none⟩) 4 4, .slice (some ⟨w.heap.size + 1, 0, none⟩) 4 4]) (by simp [results, Try.results57, go_sem]) rfl ⟨_, rfl, ⟨_, _, rfl, ?_, ?_, ?_, ?_, ?_, ints4 ?_ ?_ ?_ ?_ ?_, ints4 ?_ ?_ ?_ ?_ ?_, fun j => ?_, fun j => ?_⟩, ?_⟩
    all_goals first | omega | (simp; done) | (simp; omega) | (simp [go_sem, entZ]; done) | (repeat (first | exact Below.refl _ _ | refine Below.setCell ?_ (by simp; try omega) _ | refine Below.drew ?_ | refine Below.alloc ?_ (by simp; try omega) _))
  · go_wp2_with fail
    refine bodyPost_ret (v := .agg #[.int .i64 proc, .int .i64 0, .slice (some ⟨w.heap.size + 1 + 1, 0, none⟩) 4 4, .slice (some ⟨w.heap.size + 1 + 1 + 1, 0, none⟩) 4 4]) (by simp [results, Try.results57, go_sem]) rfl ⟨_, rfl, ⟨_, _, rfl, ?_, ?_, ?_, ?_, ?_, ints4 ?_ ?_ ?_ ?_ ?_, ints4 ?_ ?_ ?_ ?_ ?_, fun j => ?_, fun j => ?_⟩, ?_⟩
    all_goals first | omega | (simp; done) | (simp; omega) | (simp [go_sem, entZ]; done) | (repeat (first | exact Below.refl _ _ | refine Below.setCell ?_ (by simp; try omega) _ | refine Below.drew ?_ | refine Below.alloc ?_ (by simp; try omega) _))
  · go_wp2_with fail
    refine bodyPost_ret (v := .agg #[.int .i64 proc, .int .i64 0, .slice (some ⟨w.heap.size + 1 + 1 + 1, 0, none⟩) 4 4, .slice (some ⟨w.heap.size + 1 + 1, 0, none⟩) 4 4]) (by simp [results, Try.results57, go_sem]) rfl ⟨_, rfl, ⟨_, _, rfl, ?_, ?_, ?_, ?_, ?_, ints4 ?_ ?_ ?_ ?_ ?_, ints4 ?_ ?_ ?_ ?_ ?_, fun j => ?_, fun j => ?_⟩, ?_⟩
    all_goals first | omega | (simp; done) | (simp; omega) | (simp [go_sem, entZ]; done) | (repeat (first | exact Below.refl _ _ | refine Below.setCell ?_ (by simp; try omega) _ | refine Below.drew ?_ | refine Below.alloc ?_ (by simp; try omega) _))
end Go.Proofs.Ytndedplmcjfgeaa
