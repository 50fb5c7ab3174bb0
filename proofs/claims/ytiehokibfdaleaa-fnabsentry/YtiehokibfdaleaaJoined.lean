/- An arrival's join; the fold over two of them. -/
import Derived.Test.YtiehokibfdaleaaBeside
namespace Go.Proofs.Ytiehokibfdaleaa
open Go.ChangeShapes Go.WideShapes Go.ChangeAt Go.RowKit
set_option linter.unusedVariables false

set_option maxRecDepth 10000 in
set_option maxHeartbeats 8000000 in
theorem joinM_f (on' : Bool) (l h l' h' : Nat → Int) (w : World) :
    Calls Try.prog 71 #[.agg #[.bool false, .int .i64 (l 0), .int .i64 (h 0), .int .i64 (l 1), .int .i64 (h 1), .int .i64 (l 2), .int .i64 (h 2), .int .i64 (l 3), .int .i64 (h 3), .int .i64 (l 4), .int .i64 (h 4)], .agg #[.bool on', .int .i64 (l' 0), .int .i64 (h' 0), .int .i64 (l' 1), .int .i64 (h' 1), .int .i64 (l' 2), .int .i64 (h' 2), .int .i64 (l' 3), .int .i64 (h' 3), .int .i64 (l' 4), .int .i64 (h' 4)]] w fun e w' => e = .returned (.agg #[.bool on', .int .i64 (l' 0), .int .i64 (h' 0), .int .i64 (l' 1), .int .i64 (h' 1), .int .i64 (l' 2), .int .i64 (h' 2), .int .i64 (l' 3), .int .i64 (h' 3), .int .i64 (l' 4), .int .i64 (h' 4)]) ∧ Below w.heap.size w w' := by

  have H : HeldL w [(w.heap.size + 1 + 1, [Value.bool false, .int .i64 0, .int .i64 0, .int .i64 0, .int .i64 0, .int .i64 0, .int .i64 0, .int .i64 0, .int .i64 0, .int .i64 0, .int .i64 0]), (w.heap.size + 1, [Value.bool on', .int .i64 (l' 0), .int .i64 (h' 0), .int .i64 (l' 1), .int .i64 (h' 1), .int .i64 (l' 2), .int .i64 (h' 2), .int .i64 (l' 3), .int .i64 (h' 3), .int .i64 (l' 4), .int .i64 (h' 4)]), (w.heap.size, [Value.bool false, .int .i64 (l 0), .int .i64 (h 0), .int .i64 (l 1), .int .i64 (h 1), .int .i64 (l 2), .int .i64 (h 2), .int .i64 (l 3), .int .i64 (h 3), .int .i64 (l 4), .int .i64 (h 4)])] (((w.alloc (.cells #[.bool false, .int .i64 (l 0), .int .i64 (h 0), .int .i64 (l 1), .int .i64 (h 1), .int .i64 (l 2), .int .i64 (h 2), .int .i64 (l 3), .int .i64 (h 3), .int .i64 (l 4), .int .i64 (h 4)] 49)).alloc (.cells #[.bool on', .int .i64 (l' 0), .int .i64 (h' 0), .int .i64 (l' 1), .int .i64 (h' 1), .int .i64 (l' 2), .int .i64 (h' 2), .int .i64 (l' 3), .int .i64 (h' 3), .int .i64 (l' 4), .int .i64 (h' 4)] 49)).alloc (.cells #[.bool false, .int .i64 0, .int .i64 0, .int .i64 0, .int .i64 0, .int .i64 0, .int .i64 0, .int .i64 0, .int .i64 0, .int .i64 0, .int .i64 0] 49)) := by
    have e1 : w.heap.size + 1 = (w.alloc (.cells #[.bool false, .int .i64 (l 0), .int .i64 (h 0), .int .i64 (l 1), .int .i64 (h 1), .int .i64 (l 2), .int .i64 (h 2), .int .i64 (l 3), .int .i64 (h 3), .int .i64 (l 4), .int .i64 (h 4)] 49)).heap.size := by simp
    have e2 : w.heap.size + 1 + 1 = ((w.alloc (.cells #[.bool false, .int .i64 (l 0), .int .i64 (h 0), .int .i64 (l 1), .int .i64 (h 1), .int .i64 (l 2), .int .i64 (h 2), .int .i64 (l 3), .int .i64 (h 3), .int .i64 (l 4), .int .i64 (h 4)] 49)).alloc (.cells #[.bool on', .int .i64 (l' 0), .int .i64 (h' 0), .int .i64 (l' 1), .int .i64 (h' 1), .int .i64 (l' 2), .int .i64 (h' 2), .int .i64 (l' 3), .int .i64 (h' 3), .int .i64 (l' 4), .int .i64 (h' 4)] 49)).heap.size := by simp
    rw [e2, e1]
    exact HeldL.newL (vs := [Value.bool false, .int .i64 0, .int .i64 0, .int .i64 0, .int .i64 0, .int .i64 0, .int .i64 0, .int .i64 0, .int .i64 0, .int .i64 0, .int .i64 0]) (HeldL.newL (vs := [Value.bool on', .int .i64 (l' 0), .int .i64 (h' 0), .int .i64 (l' 1), .int .i64 (h' 1), .int .i64 (l' 2), .int .i64 (h' 2), .int .i64 (l' 3), .int .i64 (h' 3), .int .i64 (l' 4), .int .i64 (h' 4)]) (HeldL.newL (vs := [Value.bool false, .int .i64 (l 0), .int .i64 (h 0), .int .i64 (l 1), .int .i64 (h 1), .int .i64 (l 2), .int .i64 (h 2), .int .i64 (l 3), .int .i64 (h 3), .int .i64 (l 4), .int .i64 (h 4)]) (HeldL.nil w)))
  go_enter Try.func71, Try.ntmps71
  go_wp2_with fail
  refine (beside_f _ _ _ _ _ _ _).mono ?_
  rintro e w1 ⟨rfl, hb⟩
  replace H := H.next hb
  clear hb
  have r0 := H.cell List.mem_cons_self (i := 0) rfl
  have r1 := H.cell List.mem_cons_self (i := 1) rfl
  have r2 := H.cell List.mem_cons_self (i := 2) rfl
  have r3 := H.cell List.mem_cons_self (i := 3) rfl
  have r4 := H.cell List.mem_cons_self (i := 4) rfl
  have r5 := H.cell List.mem_cons_self (i := 5) rfl
  have r6 := H.cell List.mem_cons_self (i := 6) rfl
  have r7 := H.cell List.mem_cons_self (i := 7) rfl
  have r8 := H.cell List.mem_cons_self (i := 8) rfl
  have r9 := H.cell List.mem_cons_self (i := 9) rfl
  have r10 := H.cell List.mem_cons_self (i := 10) rfl
  have fr := H.free _ List.mem_cons_self
  have bE := H.below
  dsimp only at fr r0 r1 r2 r3 r4 r5 r6 r7 r8 r9 r10
  obtain ⟨e0, e1, e2, e3, e4, e5, e6, e7, e8, e9, e10⟩ := own11c r0 r1 r2 r3 r4 r5 r6 r7 r8 r9 r10
  clear H
  go_wp2_with fail
  refine bodyPost_ret (v := .agg #[.bool on', .int .i64 (l' 0), .int .i64 (h' 0), .int .i64 (l' 1), .int .i64 (h' 1), .int .i64 (l' 2), .int .i64 (h' 2), .int .i64 (l' 3), .int .i64 (h' 3), .int .i64 (l' 4), .int .i64 (h' 4)]) (by simp [results, Try.results71, go_sem, e0, e1, e2, e3, e4, e5, e6, e7, e8, e9, e10]) rfl ⟨rfl, ?_⟩
  exact setAll_below (g := w.heap.size + 1 + 1) (by omega) [.bool on', .int .i64 (l' 0), .int .i64 (h' 0), .int .i64 (l' 1), .int .i64 (h' 1), .int .i64 (l' 2), .int .i64 (h' 2), .int .i64 (l' 3), .int .i64 (h' 3), .int .i64 (l' 4), .int .i64 (h' 4)] 0 _ bE
set_option maxRecDepth 10000 in
set_option maxHeartbeats 8000000 in
theorem joinM_tf (l h l' h' : Nat → Int) (w : World) :
    Calls Try.prog 71 #[.agg #[.bool true, .int .i64 (l 0), .int .i64 (h 0), .int .i64 (l 1), .int .i64 (h 1), .int .i64 (l 2), .int .i64 (h 2), .int .i64 (l 3), .int .i64 (h 3), .int .i64 (l 4), .int .i64 (h 4)], .agg #[.bool false, .int .i64 (l' 0), .int .i64 (h' 0), .int .i64 (l' 1), .int .i64 (h' 1), .int .i64 (l' 2), .int .i64 (h' 2), .int .i64 (l' 3), .int .i64 (h' 3), .int .i64 (l' 4), .int .i64 (h' 4)]] w fun e w' => e = .returned (.agg #[.bool true, .int .i64 (l 0), .int .i64 (h 0), .int .i64 (l 1), .int .i64 (h 1), .int .i64 (l 2), .int .i64 (h 2), .int .i64 (l 3), .int .i64 (h 3), .int .i64 (l 4), .int .i64 (h 4)]) ∧ Below w.heap.size w w' := by

  have H : HeldL w [(w.heap.size + 1 + 1, [Value.bool false, .int .i64 0, .int .i64 0, .int .i64 0, .int .i64 0, .int .i64 0, .int .i64 0, .int .i64 0, .int .i64 0, .int .i64 0, .int .i64 0]), (w.heap.size + 1, [Value.bool false, .int .i64 (l' 0), .int .i64 (h' 0), .int .i64 (l' 1), .int .i64 (h' 1), .int .i64 (l' 2), .int .i64 (h' 2), .int .i64 (l' 3), .int .i64 (h' 3), .int .i64 (l' 4), .int .i64 (h' 4)]), (w.heap.size, [Value.bool true, .int .i64 (l 0), .int .i64 (h 0), .int .i64 (l 1), .int .i64 (h 1), .int .i64 (l 2), .int .i64 (h 2), .int .i64 (l 3), .int .i64 (h 3), .int .i64 (l 4), .int .i64 (h 4)])] (((w.alloc (.cells #[.bool true, .int .i64 (l 0), .int .i64 (h 0), .int .i64 (l 1), .int .i64 (h 1), .int .i64 (l 2), .int .i64 (h 2), .int .i64 (l 3), .int .i64 (h 3), .int .i64 (l 4), .int .i64 (h 4)] 49)).alloc (.cells #[.bool false, .int .i64 (l' 0), .int .i64 (h' 0), .int .i64 (l' 1), .int .i64 (h' 1), .int .i64 (l' 2), .int .i64 (h' 2), .int .i64 (l' 3), .int .i64 (h' 3), .int .i64 (l' 4), .int .i64 (h' 4)] 49)).alloc (.cells #[.bool false, .int .i64 0, .int .i64 0, .int .i64 0, .int .i64 0, .int .i64 0, .int .i64 0, .int .i64 0, .int .i64 0, .int .i64 0, .int .i64 0] 49)) := by
    have e1 : w.heap.size + 1 = (w.alloc (.cells #[.bool true, .int .i64 (l 0), .int .i64 (h 0), .int .i64 (l 1), .int .i64 (h 1), .int .i64 (l 2), .int .i64 (h 2), .int .i64 (l 3), .int .i64 (h 3), .int .i64 (l 4), .int .i64 (h 4)] 49)).heap.size := by simp
    have e2 : w.heap.size + 1 + 1 = ((w.alloc (.cells #[.bool true, .int .i64 (l 0), .int .i64 (h 0), .int .i64 (l 1), .int .i64 (h 1), .int .i64 (l 2), .int .i64 (h 2), .int .i64 (l 3), .int .i64 (h 3), .int .i64 (l 4), .int .i64 (h 4)] 49)).alloc (.cells #[.bool false, .int .i64 (l' 0), .int .i64 (h' 0), .int .i64 (l' 1), .int .i64 (h' 1), .int .i64 (l' 2), .int .i64 (h' 2), .int .i64 (l' 3), .int .i64 (h' 3), .int .i64 (l' 4), .int .i64 (h' 4)] 49)).heap.size := by simp
    rw [e2, e1]
    exact HeldL.newL (vs := [Value.bool false, .int .i64 0, .int .i64 0, .int .i64 0, .int .i64 0, .int .i64 0, .int .i64 0, .int .i64 0, .int .i64 0, .int .i64 0, .int .i64 0]) (HeldL.newL (vs := [Value.bool false, .int .i64 (l' 0), .int .i64 (h' 0), .int .i64 (l' 1), .int .i64 (h' 1), .int .i64 (l' 2), .int .i64 (h' 2), .int .i64 (l' 3), .int .i64 (h' 3), .int .i64 (l' 4), .int .i64 (h' 4)]) (HeldL.newL (vs := [Value.bool true, .int .i64 (l 0), .int .i64 (h 0), .int .i64 (l 1), .int .i64 (h 1), .int .i64 (l 2), .int .i64 (h 2), .int .i64 (l 3), .int .i64 (h 3), .int .i64 (l 4), .int .i64 (h 4)]) (HeldL.nil w)))
  go_enter Try.func71, Try.ntmps71
  go_wp2_with fail
  refine (beside_tf _ _ _ _ _ _).mono ?_
  rintro e w1 ⟨rfl, hb⟩
  replace H := H.next hb
  clear hb
  have r0 := H.cell List.mem_cons_self (i := 0) rfl
  have r1 := H.cell List.mem_cons_self (i := 1) rfl
  have r2 := H.cell List.mem_cons_self (i := 2) rfl
  have r3 := H.cell List.mem_cons_self (i := 3) rfl
  have r4 := H.cell List.mem_cons_self (i := 4) rfl
  have r5 := H.cell List.mem_cons_self (i := 5) rfl
  have r6 := H.cell List.mem_cons_self (i := 6) rfl
  have r7 := H.cell List.mem_cons_self (i := 7) rfl
  have r8 := H.cell List.mem_cons_self (i := 8) rfl
  have r9 := H.cell List.mem_cons_self (i := 9) rfl
  have r10 := H.cell List.mem_cons_self (i := 10) rfl
  have fr := H.free _ List.mem_cons_self
  have bE := H.below
  dsimp only at fr r0 r1 r2 r3 r4 r5 r6 r7 r8 r9 r10
  obtain ⟨e0, e1, e2, e3, e4, e5, e6, e7, e8, e9, e10⟩ := own11c r0 r1 r2 r3 r4 r5 r6 r7 r8 r9 r10
  clear H
  go_wp2_with fail
  refine bodyPost_ret (v := .agg #[.bool true, .int .i64 (l 0), .int .i64 (h 0), .int .i64 (l 1), .int .i64 (h 1), .int .i64 (l 2), .int .i64 (h 2), .int .i64 (l 3), .int .i64 (h 3), .int .i64 (l 4), .int .i64 (h 4)]) (by simp [results, Try.results71, go_sem, e0, e1, e2, e3, e4, e5, e6, e7, e8, e9, e10]) rfl ⟨rfl, ?_⟩
  exact setAll_below (g := w.heap.size + 1 + 1) (by omega) [.bool true, .int .i64 (l 0), .int .i64 (h 0), .int .i64 (l 1), .int .i64 (h 1), .int .i64 (l 2), .int .i64 (h 2), .int .i64 (l 3), .int .i64 (h 3), .int .i64 (l 4), .int .i64 (h 4)] 0 _ bE
set_option maxRecDepth 10000 in
set_option maxHeartbeats 8000000 in
theorem joinM_tt (l h l' h' : Nat → Int) (F G : Nat → Int) (hF : (fun k => joinLo (l k) (h k) (l' k) (h' k)) = F) (hG : (fun k => joinHi (l k) (h k) (l' k) (h' k)) = G) (w : World) :
    Calls Try.prog 71 #[.agg #[.bool true, .int .i64 (l 0), .int .i64 (h 0), .int .i64 (l 1), .int .i64 (h 1), .int .i64 (l 2), .int .i64 (h 2), .int .i64 (l 3), .int .i64 (h 3), .int .i64 (l 4), .int .i64 (h 4)], .agg #[.bool true, .int .i64 (l' 0), .int .i64 (h' 0), .int .i64 (l' 1), .int .i64 (h' 1), .int .i64 (l' 2), .int .i64 (h' 2), .int .i64 (l' 3), .int .i64 (h' 3), .int .i64 (l' 4), .int .i64 (h' 4)]] w fun e w' => e = .returned (.agg #[.bool true, .int .i64 (F 0), .int .i64 (G 0), .int .i64 (F 1), .int .i64 (G 1), .int .i64 (F 2), .int .i64 (G 2), .int .i64 (F 3), .int .i64 (G 3), .int .i64 (F 4), .int .i64 (G 4)]) ∧ Below w.heap.size w w' := by
  subst hF hG
  have H : HeldL w [(w.heap.size + 1 + 1, [Value.bool false, .int .i64 0, .int .i64 0, .int .i64 0, .int .i64 0, .int .i64 0, .int .i64 0, .int .i64 0, .int .i64 0, .int .i64 0, .int .i64 0]), (w.heap.size + 1, [Value.bool true, .int .i64 (l' 0), .int .i64 (h' 0), .int .i64 (l' 1), .int .i64 (h' 1), .int .i64 (l' 2), .int .i64 (h' 2), .int .i64 (l' 3), .int .i64 (h' 3), .int .i64 (l' 4), .int .i64 (h' 4)]), (w.heap.size, [Value.bool true, .int .i64 (l 0), .int .i64 (h 0), .int .i64 (l 1), .int .i64 (h 1), .int .i64 (l 2), .int .i64 (h 2), .int .i64 (l 3), .int .i64 (h 3), .int .i64 (l 4), .int .i64 (h 4)])] (((w.alloc (.cells #[.bool true, .int .i64 (l 0), .int .i64 (h 0), .int .i64 (l 1), .int .i64 (h 1), .int .i64 (l 2), .int .i64 (h 2), .int .i64 (l 3), .int .i64 (h 3), .int .i64 (l 4), .int .i64 (h 4)] 49)).alloc (.cells #[.bool true, .int .i64 (l' 0), .int .i64 (h' 0), .int .i64 (l' 1), .int .i64 (h' 1), .int .i64 (l' 2), .int .i64 (h' 2), .int .i64 (l' 3), .int .i64 (h' 3), .int .i64 (l' 4), .int .i64 (h' 4)] 49)).alloc (.cells #[.bool false, .int .i64 0, .int .i64 0, .int .i64 0, .int .i64 0, .int .i64 0, .int .i64 0, .int .i64 0, .int .i64 0, .int .i64 0, .int .i64 0] 49)) := by
    have e1 : w.heap.size + 1 = (w.alloc (.cells #[.bool true, .int .i64 (l 0), .int .i64 (h 0), .int .i64 (l 1), .int .i64 (h 1), .int .i64 (l 2), .int .i64 (h 2), .int .i64 (l 3), .int .i64 (h 3), .int .i64 (l 4), .int .i64 (h 4)] 49)).heap.size := by simp
    have e2 : w.heap.size + 1 + 1 = ((w.alloc (.cells #[.bool true, .int .i64 (l 0), .int .i64 (h 0), .int .i64 (l 1), .int .i64 (h 1), .int .i64 (l 2), .int .i64 (h 2), .int .i64 (l 3), .int .i64 (h 3), .int .i64 (l 4), .int .i64 (h 4)] 49)).alloc (.cells #[.bool true, .int .i64 (l' 0), .int .i64 (h' 0), .int .i64 (l' 1), .int .i64 (h' 1), .int .i64 (l' 2), .int .i64 (h' 2), .int .i64 (l' 3), .int .i64 (h' 3), .int .i64 (l' 4), .int .i64 (h' 4)] 49)).heap.size := by simp
    rw [e2, e1]
    exact HeldL.newL (vs := [Value.bool false, .int .i64 0, .int .i64 0, .int .i64 0, .int .i64 0, .int .i64 0, .int .i64 0, .int .i64 0, .int .i64 0, .int .i64 0, .int .i64 0]) (HeldL.newL (vs := [Value.bool true, .int .i64 (l' 0), .int .i64 (h' 0), .int .i64 (l' 1), .int .i64 (h' 1), .int .i64 (l' 2), .int .i64 (h' 2), .int .i64 (l' 3), .int .i64 (h' 3), .int .i64 (l' 4), .int .i64 (h' 4)]) (HeldL.newL (vs := [Value.bool true, .int .i64 (l 0), .int .i64 (h 0), .int .i64 (l 1), .int .i64 (h 1), .int .i64 (l 2), .int .i64 (h 2), .int .i64 (l 3), .int .i64 (h 3), .int .i64 (l 4), .int .i64 (h 4)]) (HeldL.nil w)))
  go_enter Try.func71, Try.ntmps71
  go_wp2_with fail
  refine (beside_join _ _ _ _ _).mono ?_
  rintro e w1 ⟨rfl, hb⟩
  replace H := H.next hb
  clear hb
  have r0 := H.cell List.mem_cons_self (i := 0) rfl
  have r1 := H.cell List.mem_cons_self (i := 1) rfl
  have r2 := H.cell List.mem_cons_self (i := 2) rfl
  have r3 := H.cell List.mem_cons_self (i := 3) rfl
  have r4 := H.cell List.mem_cons_self (i := 4) rfl
  have r5 := H.cell List.mem_cons_self (i := 5) rfl
  have r6 := H.cell List.mem_cons_self (i := 6) rfl
  have r7 := H.cell List.mem_cons_self (i := 7) rfl
  have r8 := H.cell List.mem_cons_self (i := 8) rfl
  have r9 := H.cell List.mem_cons_self (i := 9) rfl
  have r10 := H.cell List.mem_cons_self (i := 10) rfl
  have fr := H.free _ List.mem_cons_self
  have bE := H.below
  dsimp only at fr r0 r1 r2 r3 r4 r5 r6 r7 r8 r9 r10
  obtain ⟨e0, e1, e2, e3, e4, e5, e6, e7, e8, e9, e10⟩ := own11c r0 r1 r2 r3 r4 r5 r6 r7 r8 r9 r10
  clear H
  go_wp2_with fail
  refine bodyPost_ret (v := .agg #[.bool true, .int .i64 ((fun k => joinLo (l k) (h k) (l' k) (h' k)) 0), .int .i64 ((fun k => joinHi (l k) (h k) (l' k) (h' k)) 0), .int .i64 ((fun k => joinLo (l k) (h k) (l' k) (h' k)) 1), .int .i64 ((fun k => joinHi (l k) (h k) (l' k) (h' k)) 1), .int .i64 ((fun k => joinLo (l k) (h k) (l' k) (h' k)) 2), .int .i64 ((fun k => joinHi (l k) (h k) (l' k) (h' k)) 2), .int .i64 ((fun k => joinLo (l k) (h k) (l' k) (h' k)) 3), .int .i64 ((fun k => joinHi (l k) (h k) (l' k) (h' k)) 3), .int .i64 ((fun k => joinLo (l k) (h k) (l' k) (h' k)) 4), .int .i64 ((fun k => joinHi (l k) (h k) (l' k) (h' k)) 4)]) (by simp [results, Try.results71, go_sem, e0, e1, e2, e3, e4, e5, e6, e7, e8, e9, e10]) rfl ⟨rfl, ?_⟩
  exact setAll_below (g := w.heap.size + 1 + 1) (by omega) [.bool true, .int .i64 ((fun k => joinLo (l k) (h k) (l' k) (h' k)) 0), .int .i64 ((fun k => joinHi (l k) (h k) (l' k) (h' k)) 0), .int .i64 ((fun k => joinLo (l k) (h k) (l' k) (h' k)) 1), .int .i64 ((fun k => joinHi (l k) (h k) (l' k) (h' k)) 1), .int .i64 ((fun k => joinLo (l k) (h k) (l' k) (h' k)) 2), .int .i64 ((fun k => joinHi (l k) (h k) (l' k) (h' k)) 2), .int .i64 ((fun k => joinLo (l k) (h k) (l' k) (h' k)) 3), .int .i64 ((fun k => joinHi (l k) (h k) (l' k) (h' k)) 3), .int .i64 ((fun k => joinLo (l k) (h k) (l' k) (h' k)) 4), .int .i64 ((fun k => joinHi (l k) (h k) (l' k) (h' k)) 4)] 0 _ bE
def jF (on on' : Bool) (l l' F : Nat → Int) : Nat → Int := match on, on' with
  | false, _ => l'
  | true, false => l
  | true, true => F
theorem joinM (on on' : Bool) (l h l' h' F G : Nat → Int) (hF : (fun k => joinLo (l k) (h k) (l' k) (h' k)) = F) (hG : (fun k => joinHi (l k) (h k) (l' k) (h' k)) = G) (w : World) :
    Calls Try.prog 71 #[.agg #[.bool on, .int .i64 (l 0), .int .i64 (h 0), .int .i64 (l 1), .int .i64 (h 1), .int .i64 (l 2), .int .i64 (h 2), .int .i64 (l 3), .int .i64 (h 3), .int .i64 (l 4), .int .i64 (h 4)], .agg #[.bool on', .int .i64 (l' 0), .int .i64 (h' 0), .int .i64 (l' 1), .int .i64 (h' 1), .int .i64 (l' 2), .int .i64 (h' 2), .int .i64 (l' 3), .int .i64 (h' 3), .int .i64 (l' 4), .int .i64 (h' 4)]] w fun e w' => e = .returned (.agg #[.bool (on || on'), .int .i64 (jF on on' l l' F 0), .int .i64 (jF on on' h h' G 0), .int .i64 (jF on on' l l' F 1), .int .i64 (jF on on' h h' G 1), .int .i64 (jF on on' l l' F 2), .int .i64 (jF on on' h h' G 2), .int .i64 (jF on on' l l' F 3), .int .i64 (jF on on' h h' G 3), .int .i64 (jF on on' l l' F 4), .int .i64 (jF on on' h h' G 4)]) ∧ Below w.heap.size w w' := by
  cases on
  · exact joinM_f on' l h l' h' w
  cases on'
  · exact joinM_tf l h l' h' w
  · exact joinM_tt l h l' h' F G hF hG w
/-- What the fold has behind k of two. -/
def stO (on on' : Bool) : Nat → Bool
  | 0 => false
  | 1 => on
  | _ => on || on'
def stL (on on' : Bool) (l l' F : Nat → Int) : Nat → Nat → Int
  | 0 => fun _ => 0
  | 1 => l
  | _ => jF on on' l l' F
theorem meth_join (v : Value) (w : World) : (method 202 49 v "loop.example/outwork/impl.join").run Try.prog w = .ok (71, v) w := by kernel_rfl
set_option maxRecDepth 10000 in
set_option maxHeartbeats 8000000 in
theorem joined2 (g c : Nat) (on on' : Bool) (l h l' h' F G : Nat → Int) (hF : (fun k => joinLo (l k) (h k) (l' k) (h' k)) = F) (hG : (fun k => joinHi (l k) (h k) (l' k) (h' k)) = G) (w : World)
    (hc : ∀ j v, [Value.bool on, .int .i64 (l 0), .int .i64 (h 0), .int .i64 (l 1), .int .i64 (h 1), .int .i64 (l 2), .int .i64 (h 2), .int .i64 (l 3), .int .i64 (h 3), .int .i64 (l 4), .int .i64 (h 4), .bool on', .int .i64 (l' 0), .int .i64 (h' 0), .int .i64 (l' 1), .int .i64 (h' 1), .int .i64 (l' 2), .int .i64 (h' 2), .int .i64 (l' 3), .int .i64 (h' 3), .int .i64 (l' 4), .int .i64 (h' 4)][j]? = some v → w.cell? ⟨g, j, none⟩ = some v) (hg : g < w.heap.size) :
    Calls Try.prog 23 #[.slice (some ⟨g, 0, none⟩) 2 c] w fun e w' => e = .returned (.agg #[.bool (on || on'), .int .i64 (jF on on' l l' F 0), .int .i64 (jF on on' h h' G 0), .int .i64 (jF on on' l l' F 1), .int .i64 (jF on on' h h' G 1), .int .i64 (jF on on' l l' F 2), .int .i64 (jF on on' h h' G 2), .int .i64 (jF on on' l l' F 3), .int .i64 (jF on on' h h' G 3), .int .i64 (jF on on' l l' F 4), .int .i64 (jF on on' h h' G 4)]) ∧ Below w.heap.size w w' := by
  have H : HeldL w ((w.heap.size + 1, [Value.bool false, .int .i64 0, .int .i64 0, .int .i64 0, .int .i64 0, .int .i64 0, .int .i64 0, .int .i64 0, .int .i64 0, .int .i64 0, .int .i64 0]) :: [(w.heap.size, [Value.bool false, .int .i64 0, .int .i64 0, .int .i64 0, .int .i64 0, .int .i64 0, .int .i64 0, .int .i64 0, .int .i64 0, .int .i64 0, .int .i64 0])]) ((w.alloc (.cells #[.bool false, .int .i64 0, .int .i64 0, .int .i64 0, .int .i64 0, .int .i64 0, .int .i64 0, .int .i64 0, .int .i64 0, .int .i64 0, .int .i64 0] 49)).alloc (.cells #[.bool false, .int .i64 0, .int .i64 0, .int .i64 0, .int .i64 0, .int .i64 0, .int .i64 0, .int .i64 0, .int .i64 0, .int .i64 0, .int .i64 0] 49)) := by
    have e1 : w.heap.size + 1 = (w.alloc (.cells #[.bool false, .int .i64 0, .int .i64 0, .int .i64 0, .int .i64 0, .int .i64 0, .int .i64 0, .int .i64 0, .int .i64 0, .int .i64 0, .int .i64 0] 49)).heap.size := by simp
    rw [e1]
    exact HeldL.newL (vs := [Value.bool false, .int .i64 0, .int .i64 0, .int .i64 0, .int .i64 0, .int .i64 0, .int .i64 0, .int .i64 0, .int .i64 0, .int .i64 0, .int .i64 0]) (HeldL.newL (vs := [Value.bool false, .int .i64 0, .int .i64 0, .int .i64 0, .int .i64 0, .int .i64 0, .int .i64 0, .int .i64 0, .int .i64 0, .int .i64 0, .int .i64 0]) (HeldL.nil w))
  have ne0 : ∀ e ∈ [(w.heap.size, [Value.bool false, .int .i64 0, .int .i64 0, .int .i64 0, .int .i64 0, .int .i64 0, .int .i64 0, .int .i64 0, .int .i64 0, .int .i64 0, .int .i64 0])], e.1 ≠ w.heap.size + 1 := by intro e he; simp at he; subst he; dsimp only; omega
  go_enter Try.func23, Try.ntmps23
  go_wp2_with fail
  go_loopw [8] (fun i wr => ∃ k : Nat, k ≤ 2 ∧ i = .int .i64 k ∧ HeldL w ((w.heap.size + 1, [Value.bool (stO on on' k), .int .i64 (stL on on' l l' F k 0), .int .i64 (stL on on' h h' G k 0), .int .i64 (stL on on' l l' F k 1), .int .i64 (stL on on' h h' G k 1), .int .i64 (stL on on' l l' F k 2), .int .i64 (stL on on' h h' G k 2), .int .i64 (stL on on' l l' F k 3), .int .i64 (stL on on' h h' G k 3), .int .i64 (stL on on' l l' F k 4), .int .i64 (stL on on' h h' G k 4)]) :: [(w.heap.size, [Value.bool false, .int .i64 0, .int .i64 0, .int .i64 0, .int .i64 0, .int .i64 0, .int .i64 0, .int .i64 0, .int .i64 0, .int .i64 0, .int .i64 0])]) wr) (fun i _ => 2 - (intOf i).toNat)
  case atStart => exact ⟨0, Nat.zero_le _, rfl, H⟩
  case round =>
    clear H
    obtain ⟨k, hk, rfl, H⟩ := hrel
    rcases (show k = 0 ∨ k = 1 ∨ k = 2 by omega) with rfl | rfl | rfl
    · have hB := H.below
      have d0 := (hB.cell (p := ⟨g, 0, none⟩) hg).trans (hc 0 _ rfl)
      have d1 := (hB.cell (p := ⟨g, 1, none⟩) hg).trans (hc 1 _ rfl)
      have d2 := (hB.cell (p := ⟨g, 2, none⟩) hg).trans (hc 2 _ rfl)
      have d3 := (hB.cell (p := ⟨g, 3, none⟩) hg).trans (hc 3 _ rfl)
      have d4 := (hB.cell (p := ⟨g, 4, none⟩) hg).trans (hc 4 _ rfl)
      have d5 := (hB.cell (p := ⟨g, 5, none⟩) hg).trans (hc 5 _ rfl)
      have d6 := (hB.cell (p := ⟨g, 6, none⟩) hg).trans (hc 6 _ rfl)
      have d7 := (hB.cell (p := ⟨g, 7, none⟩) hg).trans (hc 7 _ rfl)
      have d8 := (hB.cell (p := ⟨g, 8, none⟩) hg).trans (hc 8 _ rfl)
      have d9 := (hB.cell (p := ⟨g, 9, none⟩) hg).trans (hc 9 _ rfl)
      have d10 := (hB.cell (p := ⟨g, 10, none⟩) hg).trans (hc 10 _ rfl)
      have HA := H.alloc (.cells #[.bool on, .int .i64 (l 0), .int .i64 (h 0), .int .i64 (l 1), .int .i64 (h 1), .int .i64 (l 2), .int .i64 (h 2), .int .i64 (l 3), .int .i64 (h 3), .int .i64 (l 4), .int .i64 (h 4)] 49)
      have o0 := HA.cell List.mem_cons_self (i := 0) rfl
      have o1 := HA.cell List.mem_cons_self (i := 1) rfl
      have o2 := HA.cell List.mem_cons_self (i := 2) rfl
      have o3 := HA.cell List.mem_cons_self (i := 3) rfl
      have o4 := HA.cell List.mem_cons_self (i := 4) rfl
      have o5 := HA.cell List.mem_cons_self (i := 5) rfl
      have o6 := HA.cell List.mem_cons_self (i := 6) rfl
      have o7 := HA.cell List.mem_cons_self (i := 7) rfl
      have o8 := HA.cell List.mem_cons_self (i := 8) rfl
      have o9 := HA.cell List.mem_cons_self (i := 9) rfl
      have o10 := HA.cell List.mem_cons_self (i := 10) rfl
      dsimp only at o0 d0 o1 d1 o2 d2 o3 d3 o4 d4 o5 d5 o6 d6 o7 d7 o8 d8 o9 d9 o10 d10
      simp only [stO, stL] at o0 o1 o2 o3 o4 o5 o6 o7 o8 o9 o10
      clear hB H
      have q := meth_join
      go_wp2_with fail
      clear q
      refine (joinM_f _ (fun _ => 0) (fun _ => 0) l h _).mono ?_
      rintro e w2 ⟨rfl, hb⟩
      have HB := HA.next hb
      clear HA hb o0 d0 o1 d1 o2 d2 o3 d3 o4 d4 o5 d5 o6 d6 o7 d7 o8 d8 o9 d9 o10 d10
      have o0 := HB.cell List.mem_cons_self (i := 0) rfl
      have o1 := HB.cell List.mem_cons_self (i := 1) rfl
      have o2 := HB.cell List.mem_cons_self (i := 2) rfl
      have o3 := HB.cell List.mem_cons_self (i := 3) rfl
      have o4 := HB.cell List.mem_cons_self (i := 4) rfl
      have o5 := HB.cell List.mem_cons_self (i := 5) rfl
      have o6 := HB.cell List.mem_cons_self (i := 6) rfl
      have o7 := HB.cell List.mem_cons_self (i := 7) rfl
      have o8 := HB.cell List.mem_cons_self (i := 8) rfl
      have o9 := HB.cell List.mem_cons_self (i := 9) rfl
      have o10 := HB.cell List.mem_cons_self (i := 10) rfl
      have fr := HB.free _ List.mem_cons_self
      have HF := HeldL.putCells (by omega) ne0 [.bool on, .int .i64 (l 0), .int .i64 (h 0), .int .i64 (l 1), .int .i64 (h 1), .int .i64 (l 2), .int .i64 (h 2), .int .i64 (l 3), .int .i64 (h 3), .int .i64 (l 4), .int .i64 (h 4)] 0 [.bool (stO on on' 0), .int .i64 (stL on on' l l' F 0 0), .int .i64 (stL on on' h h' G 0 0), .int .i64 (stL on on' l l' F 0 1), .int .i64 (stL on on' h h' G 0 1), .int .i64 (stL on on' l l' F 0 2), .int .i64 (stL on on' h h' G 0 2), .int .i64 (stL on on' l l' F 0 3), .int .i64 (stL on on' h h' G 0 3), .int .i64 (stL on on' l l' F 0 4), .int .i64 (stL on on' h h' G 0 4)] w2 HB (by simp)
      simp only [putL, List.set_cons_succ, List.set_cons_zero, World.setCells, Nat.reduceAdd] at HF
      dsimp only at fr o0 o1 o2 o3 o4 o5 o6 o7 o8 o9 o10
      clear HB
      go_wp2_with fail
      go_roundw
      case rel => exact ⟨1, by omega, by go_num, HF⟩
      case measure => simp [intOf]
    · have hB := H.below
      have d0 := (hB.cell (p := ⟨g, 11, none⟩) hg).trans (hc 11 _ rfl)
      have d1 := (hB.cell (p := ⟨g, 12, none⟩) hg).trans (hc 12 _ rfl)
      have d2 := (hB.cell (p := ⟨g, 13, none⟩) hg).trans (hc 13 _ rfl)
      have d3 := (hB.cell (p := ⟨g, 14, none⟩) hg).trans (hc 14 _ rfl)
      have d4 := (hB.cell (p := ⟨g, 15, none⟩) hg).trans (hc 15 _ rfl)
      have d5 := (hB.cell (p := ⟨g, 16, none⟩) hg).trans (hc 16 _ rfl)
      have d6 := (hB.cell (p := ⟨g, 17, none⟩) hg).trans (hc 17 _ rfl)
      have d7 := (hB.cell (p := ⟨g, 18, none⟩) hg).trans (hc 18 _ rfl)
      have d8 := (hB.cell (p := ⟨g, 19, none⟩) hg).trans (hc 19 _ rfl)
      have d9 := (hB.cell (p := ⟨g, 20, none⟩) hg).trans (hc 20 _ rfl)
      have d10 := (hB.cell (p := ⟨g, 21, none⟩) hg).trans (hc 21 _ rfl)
      have HA := H.alloc (.cells #[.bool on', .int .i64 (l' 0), .int .i64 (h' 0), .int .i64 (l' 1), .int .i64 (h' 1), .int .i64 (l' 2), .int .i64 (h' 2), .int .i64 (l' 3), .int .i64 (h' 3), .int .i64 (l' 4), .int .i64 (h' 4)] 49)
      have o0 := HA.cell List.mem_cons_self (i := 0) rfl
      have o1 := HA.cell List.mem_cons_self (i := 1) rfl
      have o2 := HA.cell List.mem_cons_self (i := 2) rfl
      have o3 := HA.cell List.mem_cons_self (i := 3) rfl
      have o4 := HA.cell List.mem_cons_self (i := 4) rfl
      have o5 := HA.cell List.mem_cons_self (i := 5) rfl
      have o6 := HA.cell List.mem_cons_self (i := 6) rfl
      have o7 := HA.cell List.mem_cons_self (i := 7) rfl
      have o8 := HA.cell List.mem_cons_self (i := 8) rfl
      have o9 := HA.cell List.mem_cons_self (i := 9) rfl
      have o10 := HA.cell List.mem_cons_self (i := 10) rfl
      dsimp only at o0 d0 o1 d1 o2 d2 o3 d3 o4 d4 o5 d5 o6 d6 o7 d7 o8 d8 o9 d9 o10 d10
      simp only [stO, stL] at o0 o1 o2 o3 o4 o5 o6 o7 o8 o9 o10
      clear hB H
      have q := meth_join
      go_wp2_with fail
      clear q
      refine (joinM _ _ _ _ _ _ F G hF hG _).mono ?_
      rintro e w2 ⟨rfl, hb⟩
      have HB := HA.next hb
      clear HA hb o0 d0 o1 d1 o2 d2 o3 d3 o4 d4 o5 d5 o6 d6 o7 d7 o8 d8 o9 d9 o10 d10
      have o0 := HB.cell List.mem_cons_self (i := 0) rfl
      have o1 := HB.cell List.mem_cons_self (i := 1) rfl
      have o2 := HB.cell List.mem_cons_self (i := 2) rfl
      have o3 := HB.cell List.mem_cons_self (i := 3) rfl
      have o4 := HB.cell List.mem_cons_self (i := 4) rfl
      have o5 := HB.cell List.mem_cons_self (i := 5) rfl
      have o6 := HB.cell List.mem_cons_self (i := 6) rfl
      have o7 := HB.cell List.mem_cons_self (i := 7) rfl
      have o8 := HB.cell List.mem_cons_self (i := 8) rfl
      have o9 := HB.cell List.mem_cons_self (i := 9) rfl
      have o10 := HB.cell List.mem_cons_self (i := 10) rfl
      have fr := HB.free _ List.mem_cons_self
      have HF := HeldL.putCells (by omega) ne0 [.bool (on || on'), .int .i64 (jF on on' l l' F 0), .int .i64 (jF on on' h h' G 0), .int .i64 (jF on on' l l' F 1), .int .i64 (jF on on' h h' G 1), .int .i64 (jF on on' l l' F 2), .int .i64 (jF on on' h h' G 2), .int .i64 (jF on on' l l' F 3), .int .i64 (jF on on' h h' G 3), .int .i64 (jF on on' l l' F 4), .int .i64 (jF on on' h h' G 4)] 0 [.bool (stO on on' 1), .int .i64 (stL on on' l l' F 1 0), .int .i64 (stL on on' h h' G 1 0), .int .i64 (stL on on' l l' F 1 1), .int .i64 (stL on on' h h' G 1 1), .int .i64 (stL on on' l l' F 1 2), .int .i64 (stL on on' h h' G 1 2), .int .i64 (stL on on' l l' F 1 3), .int .i64 (stL on on' h h' G 1 3), .int .i64 (stL on on' l l' F 1 4), .int .i64 (stL on on' h h' G 1 4)] w2 HB (by simp)
      simp only [putL, List.set_cons_succ, List.set_cons_zero, World.setCells, Nat.reduceAdd] at HF
      dsimp only at fr o0 o1 o2 o3 o4 o5 o6 o7 o8 o9 o10
      clear HB
      go_wp2_with fail
      go_roundw
      case rel => exact ⟨2, by omega, by go_num, HF⟩
      case measure => simp [intOf]
    · have e2 : (stO on on' 2) = (on || on') := rfl
      have HX := H
      simp only [stO, stL] at HX
      have o0 := HX.cell List.mem_cons_self (i := 0) rfl
      have o1 := HX.cell List.mem_cons_self (i := 1) rfl
      have o2 := HX.cell List.mem_cons_self (i := 2) rfl
      have o3 := HX.cell List.mem_cons_self (i := 3) rfl
      have o4 := HX.cell List.mem_cons_self (i := 4) rfl
      have o5 := HX.cell List.mem_cons_self (i := 5) rfl
      have o6 := HX.cell List.mem_cons_self (i := 6) rfl
      have o7 := HX.cell List.mem_cons_self (i := 7) rfl
      have o8 := HX.cell List.mem_cons_self (i := 8) rfl
      have o9 := HX.cell List.mem_cons_self (i := 9) rfl
      have o10 := HX.cell List.mem_cons_self (i := 10) rfl
      have r0 := HX.cell (List.mem_cons_of_mem _ List.mem_cons_self) (i := 0) rfl
      have r1 := HX.cell (List.mem_cons_of_mem _ List.mem_cons_self) (i := 1) rfl
      have r2 := HX.cell (List.mem_cons_of_mem _ List.mem_cons_self) (i := 2) rfl
      have r3 := HX.cell (List.mem_cons_of_mem _ List.mem_cons_self) (i := 3) rfl
      have r4 := HX.cell (List.mem_cons_of_mem _ List.mem_cons_self) (i := 4) rfl
      have r5 := HX.cell (List.mem_cons_of_mem _ List.mem_cons_self) (i := 5) rfl
      have r6 := HX.cell (List.mem_cons_of_mem _ List.mem_cons_self) (i := 6) rfl
      have r7 := HX.cell (List.mem_cons_of_mem _ List.mem_cons_self) (i := 7) rfl
      have r8 := HX.cell (List.mem_cons_of_mem _ List.mem_cons_self) (i := 8) rfl
      have r9 := HX.cell (List.mem_cons_of_mem _ List.mem_cons_self) (i := 9) rfl
      have r10 := HX.cell (List.mem_cons_of_mem _ List.mem_cons_self) (i := 10) rfl
      have fr := HX.free _ (List.mem_cons_of_mem _ List.mem_cons_self)
      have bE := HX.below
      dsimp only at fr o0 r0 o1 r1 o2 r2 o3 r3 o4 r4 o5 r5 o6 r6 o7 r7 o8 r8 o9 r9 o10 r10
      obtain ⟨e0, e1, e2, e3, e4, e5, e6, e7, e8, e9, e10⟩ := own11c r0 r1 r2 r3 r4 r5 r6 r7 r8 r9 r10
      clear H HX
      go_wp2_with fail
      refine bodyPost_ret (v := .agg #[.bool (on || on'), .int .i64 (jF on on' l l' F 0), .int .i64 (jF on on' h h' G 0), .int .i64 (jF on on' l l' F 1), .int .i64 (jF on on' h h' G 1), .int .i64 (jF on on' l l' F 2), .int .i64 (jF on on' h h' G 2), .int .i64 (jF on on' l l' F 3), .int .i64 (jF on on' h h' G 3), .int .i64 (jF on on' l l' F 4), .int .i64 (jF on on' h h' G 4)]) (by simp [results, Try.results23, go_sem, e0, e1, e2, e3, e4, e5, e6, e7, e8, e9, e10]) rfl ⟨rfl, ?_⟩
      exact setAll_below (g := w.heap.size) (by omega) [.bool (on || on'), .int .i64 (jF on on' l l' F 0), .int .i64 (jF on on' h h' G 0), .int .i64 (jF on on' l l' F 1), .int .i64 (jF on on' h h' G 1), .int .i64 (jF on on' l l' F 2), .int .i64 (jF on on' h h' G 2), .int .i64 (jF on on' l l' F 3), .int .i64 (jF on on' h h' G 3), .int .i64 (jF on on' l l' F 4), .int .i64 (jF on on' h h' G 4)] 0 _ bE
end Go.Proofs.Ytiehokibfdaleaa
