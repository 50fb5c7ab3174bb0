/- An arrival's set and state. -/
import Derived.Test.YtiehokibfdaleaaG13
namespace Go.Proofs.Ytiehokibfdaleaa
open Go.ChangeShapes Go.WideShapes Go.ChangeAt Go.RowKit
set_option linter.unusedVariables false

def setF (l : Nat → Int) (k : Nat) (x : Int) : Nat → Int := fun j => if j = k then x else l j
set_option maxRecDepth 10000 in
set_option maxHeartbeats 4000000 in
theorem set0 (l h : Nat → Int) (x y : Int) (w : World) :
    Calls Try.prog 46 #[.agg #[.bool true, .int .i64 (l 0), .int .i64 (h 0), .int .i64 (l 1), .int .i64 (h 1), .int .i64 (l 2), .int .i64 (h 2), .int .i64 (l 3), .int .i64 (h 3), .int .i64 (l 4), .int .i64 (h 4)], .int .i64 0, .agg #[.int .i64 x, .int .i64 y]] w fun e w' => e = .returned (.agg #[.bool true, .int .i64 (setF l 0 x 0), .int .i64 (setF h 0 y 0), .int .i64 (setF l 0 x 1), .int .i64 (setF h 0 y 1), .int .i64 (setF l 0 x 2), .int .i64 (setF h 0 y 2), .int .i64 (setF l 0 x 3), .int .i64 (setF h 0 y 3), .int .i64 (setF l 0 x 4), .int .i64 (setF h 0 y 4)]) ∧ Below w.heap.size w w' := by
  have H : HeldL w ((w.heap.size, [Value.bool true, .int .i64 (l 0), .int .i64 (h 0), .int .i64 (l 1), .int .i64 (h 1), .int .i64 (l 2), .int .i64 (h 2), .int .i64 (l 3), .int .i64 (h 3), .int .i64 (l 4), .int .i64 (h 4)]) :: [(w.heap.size + 1 + 1, [Value.bool false, .int .i64 0, .int .i64 0, .int .i64 0, .int .i64 0, .int .i64 0, .int .i64 0, .int .i64 0, .int .i64 0, .int .i64 0, .int .i64 0]), (w.heap.size + 1, [Value.int .i64 x, .int .i64 y])]) (((w.alloc (.cells #[.bool true, .int .i64 (l 0), .int .i64 (h 0), .int .i64 (l 1), .int .i64 (h 1), .int .i64 (l 2), .int .i64 (h 2), .int .i64 (l 3), .int .i64 (h 3), .int .i64 (l 4), .int .i64 (h 4)] 49)).alloc (.cells #[.int .i64 x, .int .i64 y] 25)).alloc (.cells #[.bool false, .int .i64 0, .int .i64 0, .int .i64 0, .int .i64 0, .int .i64 0, .int .i64 0, .int .i64 0, .int .i64 0, .int .i64 0, .int .i64 0] 49)) := by
    have e1 : w.heap.size + 1 = (w.alloc (.cells #[.bool true, .int .i64 (l 0), .int .i64 (h 0), .int .i64 (l 1), .int .i64 (h 1), .int .i64 (l 2), .int .i64 (h 2), .int .i64 (l 3), .int .i64 (h 3), .int .i64 (l 4), .int .i64 (h 4)] 49)).heap.size := by simp
    have e2 : w.heap.size + 1 + 1 = ((w.alloc (.cells #[.bool true, .int .i64 (l 0), .int .i64 (h 0), .int .i64 (l 1), .int .i64 (h 1), .int .i64 (l 2), .int .i64 (h 2), .int .i64 (l 3), .int .i64 (h 3), .int .i64 (l 4), .int .i64 (h 4)] 49)).alloc (.cells #[.int .i64 x, .int .i64 y] 25)).heap.size := by simp
    rw [e2, e1]
    refine HeldL.sub ?_ (HeldL.newL (vs := [Value.bool false, .int .i64 0, .int .i64 0, .int .i64 0, .int .i64 0, .int .i64 0, .int .i64 0, .int .i64 0, .int .i64 0, .int .i64 0, .int .i64 0]) (HeldL.newL (vs := [Value.int .i64 x, .int .i64 y]) (HeldL.newL (vs := [Value.bool true, .int .i64 (l 0), .int .i64 (h 0), .int .i64 (l 1), .int .i64 (h 1), .int .i64 (l 2), .int .i64 (h 2), .int .i64 (l 3), .int .i64 (h 3), .int .i64 (l 4), .int .i64 (h 4)]) (HeldL.nil w))))
    intro e he
    simp only [List.mem_cons, List.not_mem_nil, or_false] at he ⊢
    rcases he with rfl | rfl | rfl <;> simp
  have ne0 : ∀ e ∈ [(w.heap.size + 1 + 1, [Value.bool false, .int .i64 0, .int .i64 0, .int .i64 0, .int .i64 0, .int .i64 0, .int .i64 0, .int .i64 0, .int .i64 0, .int .i64 0, .int .i64 0]), (w.heap.size + 1, [Value.int .i64 x, .int .i64 y])], e.1 ≠ w.heap.size := by intro e he; simp at he; rcases he with rfl | rfl <;> dsimp only <;> omega
  have H2 := HeldL.putI (i := 2) (x := .int .i64 y) (by omega) ne0 (HeldL.putI (i := 1) (x := .int .i64 x) (by omega) ne0 H (by simp)) (by simp)
  simp only [List.set_cons_succ, List.set_cons_zero] at H2
  have o0 := H2.cell List.mem_cons_self (i := 0) rfl
  have o1 := H2.cell List.mem_cons_self (i := 1) rfl
  have o2 := H2.cell List.mem_cons_self (i := 2) rfl
  have o3 := H2.cell List.mem_cons_self (i := 3) rfl
  have o4 := H2.cell List.mem_cons_self (i := 4) rfl
  have o5 := H2.cell List.mem_cons_self (i := 5) rfl
  have o6 := H2.cell List.mem_cons_self (i := 6) rfl
  have o7 := H2.cell List.mem_cons_self (i := 7) rfl
  have o8 := H2.cell List.mem_cons_self (i := 8) rfl
  have o9 := H2.cell List.mem_cons_self (i := 9) rfl
  have o10 := H2.cell List.mem_cons_self (i := 10) rfl
  have r0 := H2.cell (List.mem_cons_of_mem _ List.mem_cons_self) (i := 0) rfl
  have r1 := H2.cell (List.mem_cons_of_mem _ List.mem_cons_self) (i := 1) rfl
  have r2 := H2.cell (List.mem_cons_of_mem _ List.mem_cons_self) (i := 2) rfl
  have r3 := H2.cell (List.mem_cons_of_mem _ List.mem_cons_self) (i := 3) rfl
  have r4 := H2.cell (List.mem_cons_of_mem _ List.mem_cons_self) (i := 4) rfl
  have r5 := H2.cell (List.mem_cons_of_mem _ List.mem_cons_self) (i := 5) rfl
  have r6 := H2.cell (List.mem_cons_of_mem _ List.mem_cons_self) (i := 6) rfl
  have r7 := H2.cell (List.mem_cons_of_mem _ List.mem_cons_self) (i := 7) rfl
  have r8 := H2.cell (List.mem_cons_of_mem _ List.mem_cons_self) (i := 8) rfl
  have r9 := H2.cell (List.mem_cons_of_mem _ List.mem_cons_self) (i := 9) rfl
  have r10 := H2.cell (List.mem_cons_of_mem _ List.mem_cons_self) (i := 10) rfl
  have fr := H2.free _ (List.mem_cons_of_mem _ List.mem_cons_self)
  have bE := H2.below
  dsimp only at fr o0 r0 o1 r1 o2 r2 o3 r3 o4 r4 o5 r5 o6 r6 o7 r7 o8 r8 o9 r9 o10 r10
  obtain ⟨e0, e1, e2, e3, e4, e5, e6, e7, e8, e9, e10⟩ := own11c r0 r1 r2 r3 r4 r5 r6 r7 r8 r9 r10
  clear H H2
  go_enter Try.func46, Try.ntmps46
  go_wp2_with fail
  refine bodyPost_ret (v := .agg #[.bool true, .int .i64 (x), .int .i64 (y), .int .i64 (l 1), .int .i64 (h 1), .int .i64 (l 2), .int .i64 (h 2), .int .i64 (l 3), .int .i64 (h 3), .int .i64 (l 4), .int .i64 (h 4)]) (by first | (simp [results, Try.results46, go_sem]; done) | simp [results, Try.results46, go_sem, e0, e1, e2, e3, e4, e5, e6, e7, e8, e9, e10]) rfl ⟨by simp [setF], ?_⟩
  exact Below.alloc (Below.alloc (Below.alloc (Below.refl _ _) (Nat.le_refl _) _) (by simp) _) (by simp; omega) _
set_option maxRecDepth 10000 in
set_option maxHeartbeats 4000000 in
theorem set1 (l h : Nat → Int) (x y : Int) (w : World) :
    Calls Try.prog 46 #[.agg #[.bool true, .int .i64 (l 0), .int .i64 (h 0), .int .i64 (l 1), .int .i64 (h 1), .int .i64 (l 2), .int .i64 (h 2), .int .i64 (l 3), .int .i64 (h 3), .int .i64 (l 4), .int .i64 (h 4)], .int .i64 1, .agg #[.int .i64 x, .int .i64 y]] w fun e w' => e = .returned (.agg #[.bool true, .int .i64 (setF l 1 x 0), .int .i64 (setF h 1 y 0), .int .i64 (setF l 1 x 1), .int .i64 (setF h 1 y 1), .int .i64 (setF l 1 x 2), .int .i64 (setF h 1 y 2), .int .i64 (setF l 1 x 3), .int .i64 (setF h 1 y 3), .int .i64 (setF l 1 x 4), .int .i64 (setF h 1 y 4)]) ∧ Below w.heap.size w w' := by
  have H : HeldL w ((w.heap.size, [Value.bool true, .int .i64 (l 0), .int .i64 (h 0), .int .i64 (l 1), .int .i64 (h 1), .int .i64 (l 2), .int .i64 (h 2), .int .i64 (l 3), .int .i64 (h 3), .int .i64 (l 4), .int .i64 (h 4)]) :: [(w.heap.size + 1 + 1, [Value.bool false, .int .i64 0, .int .i64 0, .int .i64 0, .int .i64 0, .int .i64 0, .int .i64 0, .int .i64 0, .int .i64 0, .int .i64 0, .int .i64 0]), (w.heap.size + 1, [Value.int .i64 x, .int .i64 y])]) (((w.alloc (.cells #[.bool true, .int .i64 (l 0), .int .i64 (h 0), .int .i64 (l 1), .int .i64 (h 1), .int .i64 (l 2), .int .i64 (h 2), .int .i64 (l 3), .int .i64 (h 3), .int .i64 (l 4), .int .i64 (h 4)] 49)).alloc (.cells #[.int .i64 x, .int .i64 y] 25)).alloc (.cells #[.bool false, .int .i64 0, .int .i64 0, .int .i64 0, .int .i64 0, .int .i64 0, .int .i64 0, .int .i64 0, .int .i64 0, .int .i64 0, .int .i64 0] 49)) := by
    have e1 : w.heap.size + 1 = (w.alloc (.cells #[.bool true, .int .i64 (l 0), .int .i64 (h 0), .int .i64 (l 1), .int .i64 (h 1), .int .i64 (l 2), .int .i64 (h 2), .int .i64 (l 3), .int .i64 (h 3), .int .i64 (l 4), .int .i64 (h 4)] 49)).heap.size := by simp
    have e2 : w.heap.size + 1 + 1 = ((w.alloc (.cells #[.bool true, .int .i64 (l 0), .int .i64 (h 0), .int .i64 (l 1), .int .i64 (h 1), .int .i64 (l 2), .int .i64 (h 2), .int .i64 (l 3), .int .i64 (h 3), .int .i64 (l 4), .int .i64 (h 4)] 49)).alloc (.cells #[.int .i64 x, .int .i64 y] 25)).heap.size := by simp
    rw [e2, e1]
    refine HeldL.sub ?_ (HeldL.newL (vs := [Value.bool false, .int .i64 0, .int .i64 0, .int .i64 0, .int .i64 0, .int .i64 0, .int .i64 0, .int .i64 0, .int .i64 0, .int .i64 0, .int .i64 0]) (HeldL.newL (vs := [Value.int .i64 x, .int .i64 y]) (HeldL.newL (vs := [Value.bool true, .int .i64 (l 0), .int .i64 (h 0), .int .i64 (l 1), .int .i64 (h 1), .int .i64 (l 2), .int .i64 (h 2), .int .i64 (l 3), .int .i64 (h 3), .int .i64 (l 4), .int .i64 (h 4)]) (HeldL.nil w))))
    intro e he
    simp only [List.mem_cons, List.not_mem_nil, or_false] at he ⊢
    rcases he with rfl | rfl | rfl <;> simp
  have ne0 : ∀ e ∈ [(w.heap.size + 1 + 1, [Value.bool false, .int .i64 0, .int .i64 0, .int .i64 0, .int .i64 0, .int .i64 0, .int .i64 0, .int .i64 0, .int .i64 0, .int .i64 0, .int .i64 0]), (w.heap.size + 1, [Value.int .i64 x, .int .i64 y])], e.1 ≠ w.heap.size := by intro e he; simp at he; rcases he with rfl | rfl <;> dsimp only <;> omega
  have H2 := HeldL.putI (i := 4) (x := .int .i64 y) (by omega) ne0 (HeldL.putI (i := 3) (x := .int .i64 x) (by omega) ne0 H (by simp)) (by simp)
  simp only [List.set_cons_succ, List.set_cons_zero] at H2
  have o0 := H2.cell List.mem_cons_self (i := 0) rfl
  have o1 := H2.cell List.mem_cons_self (i := 1) rfl
  have o2 := H2.cell List.mem_cons_self (i := 2) rfl
  have o3 := H2.cell List.mem_cons_self (i := 3) rfl
  have o4 := H2.cell List.mem_cons_self (i := 4) rfl
  have o5 := H2.cell List.mem_cons_self (i := 5) rfl
  have o6 := H2.cell List.mem_cons_self (i := 6) rfl
  have o7 := H2.cell List.mem_cons_self (i := 7) rfl
  have o8 := H2.cell List.mem_cons_self (i := 8) rfl
  have o9 := H2.cell List.mem_cons_self (i := 9) rfl
  have o10 := H2.cell List.mem_cons_self (i := 10) rfl
  have r0 := H2.cell (List.mem_cons_of_mem _ List.mem_cons_self) (i := 0) rfl
  have r1 := H2.cell (List.mem_cons_of_mem _ List.mem_cons_self) (i := 1) rfl
  have r2 := H2.cell (List.mem_cons_of_mem _ List.mem_cons_self) (i := 2) rfl
  have r3 := H2.cell (List.mem_cons_of_mem _ List.mem_cons_self) (i := 3) rfl
  have r4 := H2.cell (List.mem_cons_of_mem _ List.mem_cons_self) (i := 4) rfl
  have r5 := H2.cell (List.mem_cons_of_mem _ List.mem_cons_self) (i := 5) rfl
  have r6 := H2.cell (List.mem_cons_of_mem _ List.mem_cons_self) (i := 6) rfl
  have r7 := H2.cell (List.mem_cons_of_mem _ List.mem_cons_self) (i := 7) rfl
  have r8 := H2.cell (List.mem_cons_of_mem _ List.mem_cons_self) (i := 8) rfl
  have r9 := H2.cell (List.mem_cons_of_mem _ List.mem_cons_self) (i := 9) rfl
  have r10 := H2.cell (List.mem_cons_of_mem _ List.mem_cons_self) (i := 10) rfl
  have fr := H2.free _ (List.mem_cons_of_mem _ List.mem_cons_self)
  have bE := H2.below
  dsimp only at fr o0 r0 o1 r1 o2 r2 o3 r3 o4 r4 o5 r5 o6 r6 o7 r7 o8 r8 o9 r9 o10 r10
  obtain ⟨e0, e1, e2, e3, e4, e5, e6, e7, e8, e9, e10⟩ := own11c r0 r1 r2 r3 r4 r5 r6 r7 r8 r9 r10
  clear H H2
  go_enter Try.func46, Try.ntmps46
  go_wp2_with fail
  refine bodyPost_ret (v := .agg #[.bool true, .int .i64 (l 0), .int .i64 (h 0), .int .i64 (x), .int .i64 (y), .int .i64 (l 2), .int .i64 (h 2), .int .i64 (l 3), .int .i64 (h 3), .int .i64 (l 4), .int .i64 (h 4)]) (by first | (simp [results, Try.results46, go_sem]; done) | simp [results, Try.results46, go_sem, e0, e1, e2, e3, e4, e5, e6, e7, e8, e9, e10]) rfl ⟨by simp [setF], ?_⟩
  exact Below.alloc (Below.alloc (Below.alloc (Below.refl _ _) (Nat.le_refl _) _) (by simp) _) (by simp; omega) _
set_option maxRecDepth 10000 in
set_option maxHeartbeats 4000000 in
theorem set2 (l h : Nat → Int) (x y : Int) (w : World) :
    Calls Try.prog 46 #[.agg #[.bool true, .int .i64 (l 0), .int .i64 (h 0), .int .i64 (l 1), .int .i64 (h 1), .int .i64 (l 2), .int .i64 (h 2), .int .i64 (l 3), .int .i64 (h 3), .int .i64 (l 4), .int .i64 (h 4)], .int .i64 2, .agg #[.int .i64 x, .int .i64 y]] w fun e w' => e = .returned (.agg #[.bool true, .int .i64 (setF l 2 x 0), .int .i64 (setF h 2 y 0), .int .i64 (setF l 2 x 1), .int .i64 (setF h 2 y 1), .int .i64 (setF l 2 x 2), .int .i64 (setF h 2 y 2), .int .i64 (setF l 2 x 3), .int .i64 (setF h 2 y 3), .int .i64 (setF l 2 x 4), .int .i64 (setF h 2 y 4)]) ∧ Below w.heap.size w w' := by
  have H : HeldL w ((w.heap.size, [Value.bool true, .int .i64 (l 0), .int .i64 (h 0), .int .i64 (l 1), .int .i64 (h 1), .int .i64 (l 2), .int .i64 (h 2), .int .i64 (l 3), .int .i64 (h 3), .int .i64 (l 4), .int .i64 (h 4)]) :: [(w.heap.size + 1 + 1, [Value.bool false, .int .i64 0, .int .i64 0, .int .i64 0, .int .i64 0, .int .i64 0, .int .i64 0, .int .i64 0, .int .i64 0, .int .i64 0, .int .i64 0]), (w.heap.size + 1, [Value.int .i64 x, .int .i64 y])]) (((w.alloc (.cells #[.bool true, .int .i64 (l 0), .int .i64 (h 0), .int .i64 (l 1), .int .i64 (h 1), .int .i64 (l 2), .int .i64 (h 2), .int .i64 (l 3), .int .i64 (h 3), .int .i64 (l 4), .int .i64 (h 4)] 49)).alloc (.cells #[.int .i64 x, .int .i64 y] 25)).alloc (.cells #[.bool false, .int .i64 0, .int .i64 0, .int .i64 0, .int .i64 0, .int .i64 0, .int .i64 0, .int .i64 0, .int .i64 0, .int .i64 0, .int .i64 0] 49)) := by
    have e1 : w.heap.size + 1 = (w.alloc (.cells #[.bool true, .int .i64 (l 0), .int .i64 (h 0), .int .i64 (l 1), .int .i64 (h 1), .int .i64 (l 2), .int .i64 (h 2), .int .i64 (l 3), .int .i64 (h 3), .int .i64 (l 4), .int .i64 (h 4)] 49)).heap.size := by simp
    have e2 : w.heap.size + 1 + 1 = ((w.alloc (.cells #[.bool true, .int .i64 (l 0), .int .i64 (h 0), .int .i64 (l 1), .int .i64 (h 1), .int .i64 (l 2), .int .i64 (h 2), .int .i64 (l 3), .int .i64 (h 3), .int .i64 (l 4), .int .i64 (h 4)] 49)).alloc (.cells #[.int .i64 x, .int .i64 y] 25)).heap.size := by simp
    rw [e2, e1]
    refine HeldL.sub ?_ (HeldL.newL (vs := [Value.bool false, .int .i64 0, .int .i64 0, .int .i64 0, .int .i64 0, .int .i64 0, .int .i64 0, .int .i64 0, .int .i64 0, .int .i64 0, .int .i64 0]) (HeldL.newL (vs := [Value.int .i64 x, .int .i64 y]) (HeldL.newL (vs := [Value.bool true, .int .i64 (l 0), .int .i64 (h 0), .int .i64 (l 1), .int .i64 (h 1), .int .i64 (l 2), .int .i64 (h 2), .int .i64 (l 3), .int .i64 (h 3), .int .i64 (l 4), .int .i64 (h 4)]) (HeldL.nil w))))
    intro e he
    simp only [List.mem_cons, List.not_mem_nil, or_false] at he ⊢
    rcases he with rfl | rfl | rfl <;> simp
  have ne0 : ∀ e ∈ [(w.heap.size + 1 + 1, [Value.bool false, .int .i64 0, .int .i64 0, .int .i64 0, .int .i64 0, .int .i64 0, .int .i64 0, .int .i64 0, .int .i64 0, .int .i64 0, .int .i64 0]), (w.heap.size + 1, [Value.int .i64 x, .int .i64 y])], e.1 ≠ w.heap.size := by intro e he; simp at he; rcases he with rfl | rfl <;> dsimp only <;> omega
  have H2 := HeldL.putI (i := 6) (x := .int .i64 y) (by omega) ne0 (HeldL.putI (i := 5) (x := .int .i64 x) (by omega) ne0 H (by simp)) (by simp)
  simp only [List.set_cons_succ, List.set_cons_zero] at H2
  have o0 := H2.cell List.mem_cons_self (i := 0) rfl
  have o1 := H2.cell List.mem_cons_self (i := 1) rfl
  have o2 := H2.cell List.mem_cons_self (i := 2) rfl
  have o3 := H2.cell List.mem_cons_self (i := 3) rfl
  have o4 := H2.cell List.mem_cons_self (i := 4) rfl
  have o5 := H2.cell List.mem_cons_self (i := 5) rfl
  have o6 := H2.cell List.mem_cons_self (i := 6) rfl
  have o7 := H2.cell List.mem_cons_self (i := 7) rfl
  have o8 := H2.cell List.mem_cons_self (i := 8) rfl
  have o9 := H2.cell List.mem_cons_self (i := 9) rfl
  have o10 := H2.cell List.mem_cons_self (i := 10) rfl
  have r0 := H2.cell (List.mem_cons_of_mem _ List.mem_cons_self) (i := 0) rfl
  have r1 := H2.cell (List.mem_cons_of_mem _ List.mem_cons_self) (i := 1) rfl
  have r2 := H2.cell (List.mem_cons_of_mem _ List.mem_cons_self) (i := 2) rfl
  have r3 := H2.cell (List.mem_cons_of_mem _ List.mem_cons_self) (i := 3) rfl
  have r4 := H2.cell (List.mem_cons_of_mem _ List.mem_cons_self) (i := 4) rfl
  have r5 := H2.cell (List.mem_cons_of_mem _ List.mem_cons_self) (i := 5) rfl
  have r6 := H2.cell (List.mem_cons_of_mem _ List.mem_cons_self) (i := 6) rfl
  have r7 := H2.cell (List.mem_cons_of_mem _ List.mem_cons_self) (i := 7) rfl
  have r8 := H2.cell (List.mem_cons_of_mem _ List.mem_cons_self) (i := 8) rfl
  have r9 := H2.cell (List.mem_cons_of_mem _ List.mem_cons_self) (i := 9) rfl
  have r10 := H2.cell (List.mem_cons_of_mem _ List.mem_cons_self) (i := 10) rfl
  have fr := H2.free _ (List.mem_cons_of_mem _ List.mem_cons_self)
  have bE := H2.below
  dsimp only at fr o0 r0 o1 r1 o2 r2 o3 r3 o4 r4 o5 r5 o6 r6 o7 r7 o8 r8 o9 r9 o10 r10
  obtain ⟨e0, e1, e2, e3, e4, e5, e6, e7, e8, e9, e10⟩ := own11c r0 r1 r2 r3 r4 r5 r6 r7 r8 r9 r10
  clear H H2
  go_enter Try.func46, Try.ntmps46
  go_wp2_with fail
  refine bodyPost_ret (v := .agg #[.bool true, .int .i64 (l 0), .int .i64 (h 0), .int .i64 (l 1), .int .i64 (h 1), .int .i64 (x), .int .i64 (y), .int .i64 (l 3), .int .i64 (h 3), .int .i64 (l 4), .int .i64 (h 4)]) (by first | (simp [results, Try.results46, go_sem]; done) | simp [results, Try.results46, go_sem, e0, e1, e2, e3, e4, e5, e6, e7, e8, e9, e10]) rfl ⟨by simp [setF], ?_⟩
  exact Below.alloc (Below.alloc (Below.alloc (Below.refl _ _) (Nat.le_refl _) _) (by simp) _) (by simp; omega) _
set_option maxRecDepth 10000 in
set_option maxHeartbeats 4000000 in
theorem set3 (l h : Nat → Int) (x y : Int) (w : World) :
    Calls Try.prog 46 #[.agg #[.bool true, .int .i64 (l 0), .int .i64 (h 0), .int .i64 (l 1), .int .i64 (h 1), .int .i64 (l 2), .int .i64 (h 2), .int .i64 (l 3), .int .i64 (h 3), .int .i64 (l 4), .int .i64 (h 4)], .int .i64 3, .agg #[.int .i64 x, .int .i64 y]] w fun e w' => e = .returned (.agg #[.bool true, .int .i64 (setF l 3 x 0), .int .i64 (setF h 3 y 0), .int .i64 (setF l 3 x 1), .int .i64 (setF h 3 y 1), .int .i64 (setF l 3 x 2), .int .i64 (setF h 3 y 2), .int .i64 (setF l 3 x 3), .int .i64 (setF h 3 y 3), .int .i64 (setF l 3 x 4), .int .i64 (setF h 3 y 4)]) ∧ Below w.heap.size w w' := by
  have H : HeldL w ((w.heap.size, [Value.bool true, .int .i64 (l 0), .int .i64 (h 0), .int .i64 (l 1), .int .i64 (h 1), .int .i64 (l 2), .int .i64 (h 2), .int .i64 (l 3), .int .i64 (h 3), .int .i64 (l 4), .int .i64 (h 4)]) :: [(w.heap.size + 1 + 1, [Value.bool false, .int .i64 0, .int .i64 0, .int .i64 0, .int .i64 0, .int .i64 0, .int .i64 0, .int .i64 0, .int .i64 0, .int .i64 0, .int .i64 0]), (w.heap.size + 1, [Value.int .i64 x, .int .i64 y])]) (((w.alloc (.cells #[.bool true, .int .i64 (l 0), .int .i64 (h 0), .int .i64 (l 1), .int .i64 (h 1), .int .i64 (l 2), .int .i64 (h 2), .int .i64 (l 3), .int .i64 (h 3), .int .i64 (l 4), .int .i64 (h 4)] 49)).alloc (.cells #[.int .i64 x, .int .i64 y] 25)).alloc (.cells #[.bool false, .int .i64 0, .int .i64 0, .int .i64 0, .int .i64 0, .int .i64 0, .int .i64 0, .int .i64 0, .int .i64 0, .int .i64 0, .int .i64 0] 49)) := by
    have e1 : w.heap.size + 1 = (w.alloc (.cells #[.bool true, .int .i64 (l 0), .int .i64 (h 0), .int .i64 (l 1), .int .i64 (h 1), .int .i64 (l 2), .int .i64 (h 2), .int .i64 (l 3), .int .i64 (h 3), .int .i64 (l 4), .int .i64 (h 4)] 49)).heap.size := by simp
    have e2 : w.heap.size + 1 + 1 = ((w.alloc (.cells #[.bool true, .int .i64 (l 0), .int .i64 (h 0), .int .i64 (l 1), .int .i64 (h 1), .int .i64 (l 2), .int .i64 (h 2), .int .i64 (l 3), .int .i64 (h 3), .int .i64 (l 4), .int .i64 (h 4)] 49)).alloc (.cells #[.int .i64 x, .int .i64 y] 25)).heap.size := by simp
    rw [e2, e1]
    refine HeldL.sub ?_ (HeldL.newL (vs := [Value.bool false, .int .i64 0, .int .i64 0, .int .i64 0, .int .i64 0, .int .i64 0, .int .i64 0, .int .i64 0, .int .i64 0, .int .i64 0, .int .i64 0]) (HeldL.newL (vs := [Value.int .i64 x, .int .i64 y]) (HeldL.newL (vs := [Value.bool true, .int .i64 (l 0), .int .i64 (h 0), .int .i64 (l 1), .int .i64 (h 1), .int .i64 (l 2), .int .i64 (h 2), .int .i64 (l 3), .int .i64 (h 3), .int .i64 (l 4), .int .i64 (h 4)]) (HeldL.nil w))))
    intro e he
    simp only [List.mem_cons, List.not_mem_nil, or_false] at he ⊢
    rcases he with rfl | rfl | rfl <;> simp
  have ne0 : ∀ e ∈ [(w.heap.size + 1 + 1, [Value.bool false, .int .i64 0, .int .i64 0, .int .i64 0, .int .i64 0, .int .i64 0, .int .i64 0, .int .i64 0, .int .i64 0, .int .i64 0, .int .i64 0]), (w.heap.size + 1, [Value.int .i64 x, .int .i64 y])], e.1 ≠ w.heap.size := by intro e he; simp at he; rcases he with rfl | rfl <;> dsimp only <;> omega
  have H2 := HeldL.putI (i := 8) (x := .int .i64 y) (by omega) ne0 (HeldL.putI (i := 7) (x := .int .i64 x) (by omega) ne0 H (by simp)) (by simp)
  simp only [List.set_cons_succ, List.set_cons_zero] at H2
  have o0 := H2.cell List.mem_cons_self (i := 0) rfl
  have o1 := H2.cell List.mem_cons_self (i := 1) rfl
  have o2 := H2.cell List.mem_cons_self (i := 2) rfl
  have o3 := H2.cell List.mem_cons_self (i := 3) rfl
  have o4 := H2.cell List.mem_cons_self (i := 4) rfl
  have o5 := H2.cell List.mem_cons_self (i := 5) rfl
  have o6 := H2.cell List.mem_cons_self (i := 6) rfl
  have o7 := H2.cell List.mem_cons_self (i := 7) rfl
  have o8 := H2.cell List.mem_cons_self (i := 8) rfl
  have o9 := H2.cell List.mem_cons_self (i := 9) rfl
  have o10 := H2.cell List.mem_cons_self (i := 10) rfl
  have r0 := H2.cell (List.mem_cons_of_mem _ List.mem_cons_self) (i := 0) rfl
  have r1 := H2.cell (List.mem_cons_of_mem _ List.mem_cons_self) (i := 1) rfl
  have r2 := H2.cell (List.mem_cons_of_mem _ List.mem_cons_self) (i := 2) rfl
  have r3 := H2.cell (List.mem_cons_of_mem _ List.mem_cons_self) (i := 3) rfl
  have r4 := H2.cell (List.mem_cons_of_mem _ List.mem_cons_self) (i := 4) rfl
  have r5 := H2.cell (List.mem_cons_of_mem _ List.mem_cons_self) (i := 5) rfl
  have r6 := H2.cell (List.mem_cons_of_mem _ List.mem_cons_self) (i := 6) rfl
  have r7 := H2.cell (List.mem_cons_of_mem _ List.mem_cons_self) (i := 7) rfl
  have r8 := H2.cell (List.mem_cons_of_mem _ List.mem_cons_self) (i := 8) rfl
  have r9 := H2.cell (List.mem_cons_of_mem _ List.mem_cons_self) (i := 9) rfl
  have r10 := H2.cell (List.mem_cons_of_mem _ List.mem_cons_self) (i := 10) rfl
  have fr := H2.free _ (List.mem_cons_of_mem _ List.mem_cons_self)
  have bE := H2.below
  dsimp only at fr o0 r0 o1 r1 o2 r2 o3 r3 o4 r4 o5 r5 o6 r6 o7 r7 o8 r8 o9 r9 o10 r10
  obtain ⟨e0, e1, e2, e3, e4, e5, e6, e7, e8, e9, e10⟩ := own11c r0 r1 r2 r3 r4 r5 r6 r7 r8 r9 r10
  clear H H2
  go_enter Try.func46, Try.ntmps46
  go_wp2_with fail
  refine bodyPost_ret (v := .agg #[.bool true, .int .i64 (l 0), .int .i64 (h 0), .int .i64 (l 1), .int .i64 (h 1), .int .i64 (l 2), .int .i64 (h 2), .int .i64 (x), .int .i64 (y), .int .i64 (l 4), .int .i64 (h 4)]) (by first | (simp [results, Try.results46, go_sem]; done) | simp [results, Try.results46, go_sem, e0, e1, e2, e3, e4, e5, e6, e7, e8, e9, e10]) rfl ⟨by simp [setF], ?_⟩
  exact Below.alloc (Below.alloc (Below.alloc (Below.refl _ _) (Nat.le_refl _) _) (by simp) _) (by simp; omega) _
set_option maxRecDepth 10000 in
set_option maxHeartbeats 4000000 in
theorem set4 (l h : Nat → Int) (x y : Int) (w : World) :
    Calls Try.prog 46 #[.agg #[.bool true, .int .i64 (l 0), .int .i64 (h 0), .int .i64 (l 1), .int .i64 (h 1), .int .i64 (l 2), .int .i64 (h 2), .int .i64 (l 3), .int .i64 (h 3), .int .i64 (l 4), .int .i64 (h 4)], .int .i64 4, .agg #[.int .i64 x, .int .i64 y]] w fun e w' => e = .returned (.agg #[.bool true, .int .i64 (setF l 4 x 0), .int .i64 (setF h 4 y 0), .int .i64 (setF l 4 x 1), .int .i64 (setF h 4 y 1), .int .i64 (setF l 4 x 2), .int .i64 (setF h 4 y 2), .int .i64 (setF l 4 x 3), .int .i64 (setF h 4 y 3), .int .i64 (setF l 4 x 4), .int .i64 (setF h 4 y 4)]) ∧ Below w.heap.size w w' := by
  have H : HeldL w ((w.heap.size, [Value.bool true, .int .i64 (l 0), .int .i64 (h 0), .int .i64 (l 1), .int .i64 (h 1), .int .i64 (l 2), .int .i64 (h 2), .int .i64 (l 3), .int .i64 (h 3), .int .i64 (l 4), .int .i64 (h 4)]) :: [(w.heap.size + 1 + 1, [Value.bool false, .int .i64 0, .int .i64 0, .int .i64 0, .int .i64 0, .int .i64 0, .int .i64 0, .int .i64 0, .int .i64 0, .int .i64 0, .int .i64 0]), (w.heap.size + 1, [Value.int .i64 x, .int .i64 y])]) (((w.alloc (.cells #[.bool true, .int .i64 (l 0), .int .i64 (h 0), .int .i64 (l 1), .int .i64 (h 1), .int .i64 (l 2), .int .i64 (h 2), .int .i64 (l 3), .int .i64 (h 3), .int .i64 (l 4), .int .i64 (h 4)] 49)).alloc (.cells #[.int .i64 x, .int .i64 y] 25)).alloc (.cells #[.bool false, .int .i64 0, .int .i64 0, .int .i64 0, .int .i64 0, .int .i64 0, .int .i64 0, .int .i64 0, .int .i64 0, .int .i64 0, .int .i64 0] 49)) := by
    have e1 : w.heap.size + 1 = (w.alloc (.cells #[.bool true, .int .i64 (l 0), .int .i64 (h 0), .int .i64 (l 1), .int .i64 (h 1), .int .i64 (l 2), .int .i64 (h 2), .int .i64 (l 3), .int .i64 (h 3), .int .i64 (l 4), .int .i64 (h 4)] 49)).heap.size := by simp
    have e2 : w.heap.size + 1 + 1 = ((w.alloc (.cells #[.bool true, .int .i64 (l 0), .int .i64 (h 0), .int .i64 (l 1), .int .i64 (h 1), .int .i64 (l 2), .int .i64 (h 2), .int .i64 (l 3), .int .i64 (h 3), .int .i64 (l 4), .int .i64 (h 4)] 49)).alloc (.cells #[.int .i64 x, .int .i64 y] 25)).heap.size := by simp
    rw [e2, e1]
    refine HeldL.sub ?_ (HeldL.newL (vs := [Value.bool false, .int .i64 0, .int .i64 0, .int .i64 0, .int .i64 0, .int .i64 0, .int .i64 0, .int .i64 0, .int .i64 0, .int .i64 0, .int .i64 0]) (HeldL.newL (vs := [Value.int .i64 x, .int .i64 y]) (HeldL.newL (vs := [Value.bool true, .int .i64 (l 0), .int .i64 (h 0), .int .i64 (l 1), .int .i64 (h 1), .int .i64 (l 2), .int .i64 (h 2), .int .i64 (l 3), .int .i64 (h 3), .int .i64 (l 4), .int .i64 (h 4)]) (HeldL.nil w))))
    intro e he
    simp only [List.mem_cons, List.not_mem_nil, or_false] at he ⊢
    rcases he with rfl | rfl | rfl <;> simp
  have ne0 : ∀ e ∈ [(w.heap.size + 1 + 1, [Value.bool false, .int .i64 0, .int .i64 0, .int .i64 0, .int .i64 0, .int .i64 0, .int .i64 0, .int .i64 0, .int .i64 0, .int .i64 0, .int .i64 0]), (w.heap.size + 1, [Value.int .i64 x, .int .i64 y])], e.1 ≠ w.heap.size := by intro e he; simp at he; rcases he with rfl | rfl <;> dsimp only <;> omega
  have H2 := HeldL.putI (i := 10) (x := .int .i64 y) (by omega) ne0 (HeldL.putI (i := 9) (x := .int .i64 x) (by omega) ne0 H (by simp)) (by simp)
  simp only [List.set_cons_succ, List.set_cons_zero] at H2
  have o0 := H2.cell List.mem_cons_self (i := 0) rfl
  have o1 := H2.cell List.mem_cons_self (i := 1) rfl
  have o2 := H2.cell List.mem_cons_self (i := 2) rfl
  have o3 := H2.cell List.mem_cons_self (i := 3) rfl
  have o4 := H2.cell List.mem_cons_self (i := 4) rfl
  have o5 := H2.cell List.mem_cons_self (i := 5) rfl
  have o6 := H2.cell List.mem_cons_self (i := 6) rfl
  have o7 := H2.cell List.mem_cons_self (i := 7) rfl
  have o8 := H2.cell List.mem_cons_self (i := 8) rfl
  have o9 := H2.cell List.mem_cons_self (i := 9) rfl
  have o10 := H2.cell List.mem_cons_self (i := 10) rfl
  have r0 := H2.cell (List.mem_cons_of_mem _ List.mem_cons_self) (i := 0) rfl
  have r1 := H2.cell (List.mem_cons_of_mem _ List.mem_cons_self) (i := 1) rfl
  have r2 := H2.cell (List.mem_cons_of_mem _ List.mem_cons_self) (i := 2) rfl
  have r3 := H2.cell (List.mem_cons_of_mem _ List.mem_cons_self) (i := 3) rfl
  have r4 := H2.cell (List.mem_cons_of_mem _ List.mem_cons_self) (i := 4) rfl
  have r5 := H2.cell (List.mem_cons_of_mem _ List.mem_cons_self) (i := 5) rfl
  have r6 := H2.cell (List.mem_cons_of_mem _ List.mem_cons_self) (i := 6) rfl
  have r7 := H2.cell (List.mem_cons_of_mem _ List.mem_cons_self) (i := 7) rfl
  have r8 := H2.cell (List.mem_cons_of_mem _ List.mem_cons_self) (i := 8) rfl
  have r9 := H2.cell (List.mem_cons_of_mem _ List.mem_cons_self) (i := 9) rfl
  have r10 := H2.cell (List.mem_cons_of_mem _ List.mem_cons_self) (i := 10) rfl
  have fr := H2.free _ (List.mem_cons_of_mem _ List.mem_cons_self)
  have bE := H2.below
  dsimp only at fr o0 r0 o1 r1 o2 r2 o3 r3 o4 r4 o5 r5 o6 r6 o7 r7 o8 r8 o9 r9 o10 r10
  obtain ⟨e0, e1, e2, e3, e4, e5, e6, e7, e8, e9, e10⟩ := own11c r0 r1 r2 r3 r4 r5 r6 r7 r8 r9 r10
  clear H H2
  go_enter Try.func46, Try.ntmps46
  go_wp2_with fail
  refine bodyPost_ret (v := .agg #[.bool true, .int .i64 (l 0), .int .i64 (h 0), .int .i64 (l 1), .int .i64 (h 1), .int .i64 (l 2), .int .i64 (h 2), .int .i64 (l 3), .int .i64 (h 3), .int .i64 (x), .int .i64 (y)]) (by first | (simp [results, Try.results46, go_sem]; done) | simp [results, Try.results46, go_sem, e0, e1, e2, e3, e4, e5, e6, e7, e8, e9, e10]) rfl ⟨by simp [setF], ?_⟩
  exact Below.alloc (Below.alloc (Below.alloc (Below.refl _ _) (Nat.le_refl _) _) (by simp) _) (by simp; omega) _
set_option maxHeartbeats 4000000 in
theorem stateF (l h : Nat → Int) (w : World) :
    Calls Try.prog 25 #[.agg #[.bool false, .int .i64 (l 0), .int .i64 (h 0), .int .i64 (l 1), .int .i64 (h 1), .int .i64 (l 2), .int .i64 (h 2), .int .i64 (l 3), .int .i64 (h 3), .int .i64 (l 4), .int .i64 (h 4)]] w fun e w' => e = .returned (.agg #[.bool false, .slice none 0 0, .int .i64 0, .int .i64 0]) ∧ Below w.heap.size w w' := by
  go_enter Try.func25, Try.ntmps25
  go_wp2
  refine bodyPost_ret (v := .agg #[.bool false, .slice none 0 0, .int .i64 0, .int .i64 0]) (by simp [results, Try.results25, go_sem]) rfl ⟨rfl, ?_⟩
  repeat (first | exact Below.refl _ _ | refine Below.drew ?_ | refine Below.alloc ?_ (by simp; try omega) _ | refine Below.setCell ?_ (by simp; try omega) _)
/-- Nothing but block R turns. -/
def Trn (R : Nat) (_ : Nat) (W W' : World) : Prop := W.heap.size ≤ W'.heap.size ∧ ∀ p : Addr, p.block < W.heap.size → p.block ≠ R → W'.cell? p = W.cell? p ∧ W'.frozen? p = W.frozen? p
theorem Trn.ofBelow {R i : Nat} {W W' : World} (h : Below W.heap.size W W') : Trn R i W W' := ⟨h.size, fun p hp _ => ⟨h.cell hp, h.frozen hp⟩⟩
theorem Trn.refl {R i : Nat} {W : World} : Trn R i W W := ⟨Nat.le_refl _, fun _ _ _ => ⟨rfl, rfl⟩⟩
theorem Trn.setAll {R i o : Nat} {W : World} {vs : List Value} : Trn R i W (setAll R o vs W) :=
  ⟨(setAll_below (B := 0) (w := W) (Nat.zero_le _) vs o W (Below.refl _ _)).size, fun p _ hp => ⟨setAll_other _ _ _ _ (fun j _ e => hp (by rw [e])), setAll_frozen _ _ _ _⟩⟩
theorem BndsIs.trn {N R i n : Nat} {lo hi : Nat → Int} {a : Option Addr} {g : Nat} {W W' : World} (h : BndsIs N n lo hi a g W) (hR : R < N) (t : Trn R i W W') : BndsIs N n lo hi a g W' := by
  by_cases hn : 0 < n
  · have h1 := h.own hn
    have h2 := h.at_.lt hn
    have k : ∀ q, W'.cell? ⟨g, q, none⟩ = W.cell? ⟨g, q, none⟩ := fun q => (t.2 ⟨g, q, none⟩ h2 (by dsimp only; omega)).1
    exact ⟨h.own, fun _ i => (t.2 ⟨g, i, none⟩ h2 (by dsimp only; omega)).2.trans (h.free hn i), ⟨h.at_.at_, fun _ => Nat.lt_of_lt_of_le h2 t.1, fun j hj => (k _).trans (h.at_.lo j hj), fun j hj => (k _).trans (h.at_.hi j hj)⟩⟩
  · exact ⟨fun e => absurd e hn, fun e => absurd e hn, ⟨fun e => absurd e hn, fun e => absurd e hn, fun k hk => by omega, fun k hk => by omega⟩⟩
/-- The store stands behind the build, and that behind the call. -/
def Ch (L : Nat → Bool) : Prop := (L 7 = true → L 6 = true) ∧ (L 6 = true → L 2 = true)
theorem Ch.go {L : Nat → Bool} (h : Ch L) {i : Nat} (h7 : i = 7 → L 6 = true) (h6 : i = 6 → L 2 = true) : Ch (upd L i true) := by
  refine ⟨fun e => ?_, fun e => ?_⟩
  · by_cases e6 : 6 = i
    · subst e6; exact upd_same _ _ _
    · rw [upd_other _ _ e6]
      by_cases e7 : 7 = i
      · exact h7 e7.symm
      · rw [upd_other _ _ e7] at e; exact h.1 e
  · by_cases e2 : 2 = i
    · subst e2; exact upd_same _ _ _
    · rw [upd_other _ _ e2]
      by_cases e6 : 6 = i
      · exact h6 e6.symm
      · rw [upd_other _ _ e6] at e; exact h.2 e
theorem Ch.not7 {L : Nat → Bool} (h : Ch L) (h2 : L 2 = false) : L 7 = false := by
  cases e : L 7
  · rfl
  · rw [h.2 (h.1 e)] at h2; cases h2
def ClV (N : Nat) (l h : Nat → Int) (v : Value) (W : World) : Prop := ∃ g c : Nat, v = .slice (some ⟨g, 0, none⟩) 4 c ∧ BndsIs N 4 l h (some ⟨g, 0, none⟩) g W
def NsV (N : Nat) (l h : Nat → Int) (v : Value) (W : World) : Prop := ∃ g c : Nat, v = .agg #[.bool true, .slice (some ⟨g, 0, none⟩) 4 c, .int .i64 (l 4), .int .i64 (h 4)] ∧ BndsIs N 4 l h (some ⟨g, 0, none⟩) g W
def StS (w : World) (l h : Nat → Int) (L : Nat → Bool) (W : World) : Prop := Ch L ∧ (L 7 = false → HeldL w [(w.heap.size + 1, [Value.bool false, .slice none 0 0, .int .i64 0, .int .i64 0]), (w.heap.size, [Value.bool true, .int .i64 (l 0), .int .i64 (h 0), .int .i64 (l 1), .int .i64 (h 1), .int .i64 (l 2), .int .i64 (h 2), .int .i64 (l 3), .int .i64 (h 3), .int .i64 (l 4), .int .i64 (h 4)])] W) ∧ (L 7 = true → ∃ g c : Nat, HeldL w [(w.heap.size + 1, [Value.bool true, .slice (some ⟨g, 0, none⟩) 4 c, .int .i64 (l 4), .int .i64 (h 4)]), (w.heap.size, [Value.bool true, .int .i64 (l 0), .int .i64 (h 0), .int .i64 (l 1), .int .i64 (h 1), .int .i64 (l 2), .int .i64 (h 2), .int .i64 (l 3), .int .i64 (h 3), .int .i64 (l 4), .int .i64 (h 4)])] W ∧ BndsIs (w.heap.size + 1 + 1) 4 l h (some ⟨g, 0, none⟩) g W)
set_option maxRecDepth 10000 in
set_option maxHeartbeats 8000000 in
theorem stateT (l h : Nat → Int) (w : World) :
    Calls Try.prog 25 #[.agg #[.bool true, .int .i64 (l 0), .int .i64 (h 0), .int .i64 (l 1), .int .i64 (h 1), .int .i64 (l 2), .int .i64 (h 2), .int .i64 (l 3), .int .i64 (h 3), .int .i64 (l 4), .int .i64 (h 4)]] w fun e w' => ∃ g c : Nat, e = .returned (.agg #[.bool true, .slice (some ⟨g, 0, none⟩) 4 c, .int .i64 (l 4), .int .i64 (h 4)]) ∧ BndsIs w.heap.size 4 l h (some ⟨g, 0, none⟩) g w' ∧ Below w.heap.size w w' := by
  have H0 : HeldL w [(w.heap.size + 1, [Value.bool false, .slice none 0 0, .int .i64 0, .int .i64 0]), (w.heap.size, [Value.bool true, .int .i64 (l 0), .int .i64 (h 0), .int .i64 (l 1), .int .i64 (h 1), .int .i64 (l 2), .int .i64 (h 2), .int .i64 (l 3), .int .i64 (h 3), .int .i64 (l 4), .int .i64 (h 4)])] ((w.alloc (.cells #[.bool true, .int .i64 (l 0), .int .i64 (h 0), .int .i64 (l 1), .int .i64 (h 1), .int .i64 (l 2), .int .i64 (h 2), .int .i64 (l 3), .int .i64 (h 3), .int .i64 (l 4), .int .i64 (h 4)] 49)).alloc (.cells #[.bool false, .slice none 0 0, .int .i64 0, .int .i64 0] 27)) := by
    have e1 : w.heap.size + 1 = (w.alloc (.cells #[.bool true, .int .i64 (l 0), .int .i64 (h 0), .int .i64 (l 1), .int .i64 (h 1), .int .i64 (l 2), .int .i64 (h 2), .int .i64 (l 3), .int .i64 (h 3), .int .i64 (l 4), .int .i64 (h 4)] 49)).heap.size := by simp
    rw [e1]
    exact HeldL.newL (vs := [Value.bool false, .slice none 0 0, .int .i64 0, .int .i64 0]) (HeldL.newL (vs := [Value.bool true, .int .i64 (l 0), .int .i64 (h 0), .int .i64 (l 1), .int .i64 (h 1), .int .i64 (l 2), .int .i64 (h 2), .int .i64 (l 3), .int .i64 (h 3), .int .i64 (l 4), .int .i64 (h 4)]) (HeldL.nil w))
  have ne0 : ∀ e ∈ [(w.heap.size, [Value.bool true, .int .i64 (l 0), .int .i64 (h 0), .int .i64 (l 1), .int .i64 (h 1), .int .i64 (l 2), .int .i64 (h 2), .int .i64 (l 3), .int .i64 (h 3), .int .i64 (l 4), .int .i64 (h 4)])], e.1 ≠ w.heap.size + 1 := by intro e he; simp at he; subst he; dsimp only; omega
  have hS0 : StS w l h (fun _ => false) ((w.alloc (.cells #[.bool true, .int .i64 (l 0), .int .i64 (h 0), .int .i64 (l 1), .int .i64 (h 1), .int .i64 (l 2), .int .i64 (h 2), .int .i64 (l 3), .int .i64 (h 3), .int .i64 (l 4), .int .i64 (h 4)] 49)).alloc (.cells #[.bool false, .slice none 0 0, .int .i64 0, .int .i64 0] 27)).drew := ⟨⟨(fun e => by cases e), (fun e => by cases e)⟩, fun _ => H0.drew, (fun e => by cases e)⟩
  clear H0
  go_enter Try.func25, Try.ntmps25
  go_wp2_with fail
  refine region_inv3 [(0, 7), (1, 8), (2, 9), (3, 10), (4, 11), (5, 12), (6, 13)]
    (fun j v W => match j with
      | 0 => Is (.pointer (some ⟨w.heap.size, 1, none⟩)) v
      | 1 => Is (.slice (some ⟨w.heap.size, 1, none⟩) 4 5) v
      | 2 => ClV (w.heap.size + 1 + 1) l h v W
      | 3 => Is (.pointer (some ⟨w.heap.size, 1, none⟩)) v
      | 4 => Is (.pointer (some ⟨w.heap.size, 9, none⟩)) v
      | 5 => Is (.agg #[.int .i64 (l 4), .int .i64 (h 4)]) v
      | 6 => NsV (w.heap.size + 1 + 1) l h v W
      | _ => True)
    (fun L W => StS w l h L W) (Trn (w.heap.size + 1))
    (by kernel_rfl) (by kernel_rfl) (by kernel_rfl) (by kernel_rfl) (by kernel_rfl) rfl hS0 ?_ ?_ ?_
  · intro i j v W W' hji hφ hT
    match j, hji, hφ with
    | 0, _, hφ => exact hφ
    | 1, _, hφ => exact hφ
    | 2, _, hφ => obtain ⟨g, c, e, hb⟩ := hφ; exact ⟨g, c, e, hb.trn (by omega) hT⟩
    | 3, _, hφ => exact hφ
    | 4, _, hφ => exact hφ
    | 5, _, hφ => exact hφ
    | 6, _, hφ => obtain ⟨g, c, e, hb⟩ := hφ; exact ⟨g, c, e, hb.trn (by omega) hT⟩
    | _ + 7, _, _ => trivial
  · intro i L vals W hi' hφ hS hL hd
    have hi2 : i < 8 := hi'
    clear hi' hS0
    rcases (show i = 0 ∨ i = 1 ∨ i = 2 ∨ i = 3 ∨ i = 4 ∨ i = 5 ∨ i = 6 ∨ i = 7 by omega) with rfl | rfl | rfl | rfl | rfl | rfl | rfl | rfl
    · refine wpAt_of rfl rfl ?_
      simp only [frOf, Act.put]
      go_wp2_with fail
      first | exact ⟨trivial, rfl, Trn.refl, ⟨hS.1.go (fun e => absurd e (by decide)) (fun e => absurd e (by decide)), fun e => hS.2.1 (by rwa [upd_other _ _ (by decide)] at e), fun e => hS.2.2 (by rwa [upd_other _ _ (by decide)] at e)⟩⟩ | exact ⟨rfl, Trn.refl, ⟨hS.1.go (fun e => absurd e (by decide)) (fun e => absurd e (by decide)), fun e => hS.2.1 (by rwa [upd_other _ _ (by decide)] at e), fun e => hS.2.2 (by rwa [upd_other _ _ (by decide)] at e)⟩⟩
    · have k0 : vals 0 = .pointer (some ⟨w.heap.size, 1, none⟩) := hφ 0 (hd 0 (by decide))
      refine wpAt_of rfl rfl ?_
      simp only [frOf, Act.put]
      go_wp2_with fail
      first | exact ⟨trivial, rfl, Trn.refl, ⟨hS.1.go (fun e => absurd e (by decide)) (fun e => absurd e (by decide)), fun e => hS.2.1 (by rwa [upd_other _ _ (by decide)] at e), fun e => hS.2.2 (by rwa [upd_other _ _ (by decide)] at e)⟩⟩ | exact ⟨rfl, Trn.refl, ⟨hS.1.go (fun e => absurd e (by decide)) (fun e => absurd e (by decide)), fun e => hS.2.1 (by rwa [upd_other _ _ (by decide)] at e), fun e => hS.2.2 (by rwa [upd_other _ _ (by decide)] at e)⟩⟩
    · have k1 : vals 1 = .slice (some ⟨w.heap.size, 1, none⟩) 4 5 := hφ 1 (hd 1 (by decide))
      have h7 : L 7 = false := hS.1.not7 hL
      have hH := hS.2.1 h7
      have hC : BndsAt (some ⟨w.heap.size, 1, none⟩) w.heap.size 1 4 l h W := ⟨fun _ => rfl, fun _ => hH.size (List.mem_cons_of_mem _ List.mem_cons_self), fun k hk => hH.cell (List.mem_cons_of_mem _ List.mem_cons_self) (i := 1 + k * 2) (cellAt_lo true l h (by omega)), fun k hk => hH.cell (List.mem_cons_of_mem _ List.mem_cons_self) (i := 1 + k * 2 + 1) (cellAt_hi true l h (by omega))⟩
      have hz : w.heap.size + 1 < W.heap.size := hH.size List.mem_cons_self
      refine wpAt_of rfl rfl ?_
      simp only [frOf, Act.put]
      go_wp2_with fail
      refine (cloneI _ _ _ _ _ _ hC).mono ?_
      rintro e W' ⟨g, c, rfl, hB, hb⟩
      have hC' : ClV (w.heap.size + 1 + 1) l h (.slice (some ⟨g, 0, none⟩) 4 c) W' := ⟨g, c, rfl, hB.base (by omega)⟩
      have hH' := hH.next hb
      go_wp2_with fail
      first | exact ⟨trivial, hC', Trn.ofBelow hb, ⟨hS.1.go (fun e => absurd e (by decide)) (fun e => absurd e (by decide)), fun _ => hH', (fun e => by rw [upd_other _ _ (by decide), h7] at e; cases e)⟩⟩ | exact ⟨hC', Trn.ofBelow hb, ⟨hS.1.go (fun e => absurd e (by decide)) (fun e => absurd e (by decide)), fun _ => hH', (fun e => by rw [upd_other _ _ (by decide), h7] at e; cases e)⟩⟩
    · refine wpAt_of rfl rfl ?_
      simp only [frOf, Act.put]
      go_wp2_with fail
      first | exact ⟨trivial, rfl, Trn.refl, ⟨hS.1.go (fun e => absurd e (by decide)) (fun e => absurd e (by decide)), fun e => hS.2.1 (by rwa [upd_other _ _ (by decide)] at e), fun e => hS.2.2 (by rwa [upd_other _ _ (by decide)] at e)⟩⟩ | exact ⟨rfl, Trn.refl, ⟨hS.1.go (fun e => absurd e (by decide)) (fun e => absurd e (by decide)), fun e => hS.2.1 (by rwa [upd_other _ _ (by decide)] at e), fun e => hS.2.2 (by rwa [upd_other _ _ (by decide)] at e)⟩⟩
    · have k3 : vals 3 = .pointer (some ⟨w.heap.size, 1, none⟩) := hφ 3 (hd 3 (by decide))
      refine wpAt_of rfl rfl ?_
      simp only [frOf, Act.put]
      go_wp2_with fail
      first | exact ⟨trivial, rfl, Trn.refl, ⟨hS.1.go (fun e => absurd e (by decide)) (fun e => absurd e (by decide)), fun e => hS.2.1 (by rwa [upd_other _ _ (by decide)] at e), fun e => hS.2.2 (by rwa [upd_other _ _ (by decide)] at e)⟩⟩ | exact ⟨rfl, Trn.refl, ⟨hS.1.go (fun e => absurd e (by decide)) (fun e => absurd e (by decide)), fun e => hS.2.1 (by rwa [upd_other _ _ (by decide)] at e), fun e => hS.2.2 (by rwa [upd_other _ _ (by decide)] at e)⟩⟩
    · have k4 : vals 4 = .pointer (some ⟨w.heap.size, 9, none⟩) := hφ 4 (hd 4 (by decide))
      have c9 : W.cell? ⟨w.heap.size, 9, none⟩ = some (.int .i64 (l 4)) := by
        cases h7 : L 7
        · exact (hS.2.1 h7).cell (List.mem_cons_of_mem _ List.mem_cons_self) (i := 9) rfl
        · obtain ⟨_, _, hh, _⟩ := hS.2.2 h7
          exact hh.cell (List.mem_cons_of_mem _ List.mem_cons_self) (i := 9) rfl
      have c10 : W.cell? ⟨w.heap.size, 10, none⟩ = some (.int .i64 (h 4)) := by
        cases h7 : L 7
        · exact (hS.2.1 h7).cell (List.mem_cons_of_mem _ List.mem_cons_self) (i := 10) rfl
        · obtain ⟨_, _, hh, _⟩ := hS.2.2 h7
          exact hh.cell (List.mem_cons_of_mem _ List.mem_cons_self) (i := 10) rfl
      refine wpAt_of rfl rfl ?_
      simp only [frOf, Act.put]
      go_wp2_with fail
      first | exact ⟨trivial, rfl, Trn.refl, ⟨hS.1.go (fun e => absurd e (by decide)) (fun e => absurd e (by decide)), fun e => hS.2.1 (by rwa [upd_other _ _ (by decide)] at e), fun e => hS.2.2 (by rwa [upd_other _ _ (by decide)] at e)⟩⟩ | exact ⟨rfl, Trn.refl, ⟨hS.1.go (fun e => absurd e (by decide)) (fun e => absurd e (by decide)), fun e => hS.2.1 (by rwa [upd_other _ _ (by decide)] at e), fun e => hS.2.2 (by rwa [upd_other _ _ (by decide)] at e)⟩⟩
    · obtain ⟨g, c, k2, hB⟩ : ClV (w.heap.size + 1 + 1) l h (vals 2) W := hφ 2 (hd 2 (by decide))
      have k5 : vals 5 = .agg #[.int .i64 (l 4), .int .i64 (h 4)] := hφ 5 (hd 5 (by decide))
      refine wpAt_of rfl rfl ?_
      simp only [frOf, Act.put]
      go_wp2_with fail
      first | exact ⟨trivial, ⟨g, c, rfl, hB⟩, Trn.refl, ⟨hS.1.go (fun e => absurd e (by decide)) (fun _ => hd 2 (by decide)), fun e => hS.2.1 (by rwa [upd_other _ _ (by decide)] at e), fun e => hS.2.2 (by rwa [upd_other _ _ (by decide)] at e)⟩⟩ | exact ⟨⟨g, c, rfl, hB⟩, Trn.refl, ⟨hS.1.go (fun e => absurd e (by decide)) (fun _ => hd 2 (by decide)), fun e => hS.2.1 (by rwa [upd_other _ _ (by decide)] at e), fun e => hS.2.2 (by rwa [upd_other _ _ (by decide)] at e)⟩⟩
    · obtain ⟨g, c, k6, hB⟩ : NsV (w.heap.size + 1 + 1) l h (vals 6) W := hφ 6 (hd 6 (by decide))
      have hH := hS.2.1 hL
      have r0 := hH.cell List.mem_cons_self (i := 0) rfl
      have r1 := hH.cell List.mem_cons_self (i := 1) rfl
      have r2 := hH.cell List.mem_cons_self (i := 2) rfl
      have r3 := hH.cell List.mem_cons_self (i := 3) rfl
      have fr := hH.free _ List.mem_cons_self
      dsimp only at r0 r1 r2 r3 fr
      have hH' := HeldL.putI (i := 3) (x := .int .i64 (h 4)) (by omega) ne0 (HeldL.putI (i := 2) (x := .int .i64 (l 4)) (by omega) ne0 (HeldL.putI (i := 1) (x := .slice (some ⟨g, 0, none⟩) 4 c) (by omega) ne0 (HeldL.putI (i := 0) (x := .bool true) (by omega) ne0 hH (by simp)) (by simp)) (by simp)) (by simp)
      simp only [List.set_cons_succ, List.set_cons_zero] at hH'
      have hT : Trn (w.heap.size + 1) 7 W (setAll (w.heap.size + 1) 0 [.bool true, .slice (some ⟨g, 0, none⟩) 4 c, .int .i64 (l 4), .int .i64 (h 4)] W) := Trn.setAll
      have hB' := hB.trn (by omega) hT
      refine wpAt_none rfl rfl ?_
      simp only [frOf, Act.put]
      go_wp2_with fail
      have fin : StS w l h (upd L 7 true) (setAll (w.heap.size + 1) 0 [.bool true, .slice (some ⟨g, 0, none⟩) 4 c, .int .i64 (l 4), .int .i64 (h 4)] W) := ⟨hS.1.go (fun _ => hd 6 (by decide)) (fun e => absurd e (by decide)), (fun e => by rw [upd_same] at e; cases e), fun _ => ⟨g, c, hH', hB'⟩⟩
      first | exact ⟨trivial, trivial, hT, fin⟩ | exact ⟨trivial, hT, fin⟩ | exact ⟨hT, fin⟩
  · intro L vals W hall hφ hS
    have k0 : vals 0 = .pointer (some ⟨w.heap.size, 1, none⟩) := hφ 0 (by decide)
    have k1 : vals 1 = .slice (some ⟨w.heap.size, 1, none⟩) 4 5 := hφ 1 (by decide)
    have k3 : vals 3 = .pointer (some ⟨w.heap.size, 1, none⟩) := hφ 3 (by decide)
    have k4 : vals 4 = .pointer (some ⟨w.heap.size, 9, none⟩) := hφ 4 (by decide)
    have k5 : vals 5 = .agg #[.int .i64 (l 4), .int .i64 (h 4)] := hφ 5 (by decide)
    obtain ⟨g, c, hH, hB⟩ := hS.2.2 (hall 7 (by decide))
    simp only [frOf, Act.put, List.setIfInBounds_toArray, List.set_cons_succ, List.set_cons_zero, k0, k1, k3, k4, k5]
    clear k0 k1 k3 k4 k5 hall hφ hS0 hS
    have r0 := hH.cell List.mem_cons_self (i := 0) rfl
    have r1 := hH.cell List.mem_cons_self (i := 1) rfl
    have r2 := hH.cell List.mem_cons_self (i := 2) rfl
    have r3 := hH.cell List.mem_cons_self (i := 3) rfl
    dsimp only at r0 r1 r2 r3
    go_wp2_with fail
    refine bodyPost_ret (v := .agg #[.bool true, .slice (some ⟨g, 0, none⟩) 4 c, .int .i64 (l 4), .int .i64 (h 4)]) (by simp [results, Try.results25, go_sem, r0, r1, r2, r3]) rfl ⟨g, c, rfl, hB.base (by omega), hH.below⟩
end Go.Proofs.Ytiehokibfdaleaa
