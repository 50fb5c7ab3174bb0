/- The program's InsOk: what stepOf makes of a step, and that InsOk answers what the plain insOk says. Each makes memory of its own alone. -/
import Derived.Test.YtdpkbbbfnmneiaaStepI
import Derived.Test.YtdpkbbbfnmneiaaInsS
import Derived.Deep.RegionWith
import Derived.Deep.RegionHeld
namespace Go.Proofs.Ytdpkbbbfnmneiaa
open Go.ChangeShapes Go.WideShapes Go.ChangeAt Go.RowKit

set_option maxHeartbeats 1000000 in
theorem stepOfI_1 (d a b r l h t : Int) (w : World) :
    Calls Try.prog 79 #[.agg #[.int .i64 1, .int .i64 d, .int .i64 a, .int .i64 b, .int .i64 r, .int .i64 l, .int .i64 h, .int .i64 t]] w fun e w' => e = .returned (.iface 160 (.agg #[.int .i64 1, .int .i64 d, .int .i64 a, .int .i64 b])) ∧ Below w.heap.size w w' := by
  go_enter Try.func79, Try.ntmps79
  go_wp2
  go_ret
  refine ⟨rfl, ?_⟩
  repeat (first | exact Below.refl _ _ | refine Below.drew ?_ | refine Below.alloc ?_ (by simp; try omega) _ | refine Below.setCell ?_ (by simp; try omega) _)

set_option maxHeartbeats 1000000 in
theorem stepOfI_2 (d a b r l h t : Int) (w : World) :
    Calls Try.prog 79 #[.agg #[.int .i64 2, .int .i64 d, .int .i64 a, .int .i64 b, .int .i64 r, .int .i64 l, .int .i64 h, .int .i64 t]] w fun e w' => e = .returned (.iface 160 (.agg #[.int .i64 2, .int .i64 d, .int .i64 a, .int .i64 b])) ∧ Below w.heap.size w w' := by
  go_enter Try.func79, Try.ntmps79
  go_wp2
  go_ret
  refine ⟨rfl, ?_⟩
  repeat (first | exact Below.refl _ _ | refine Below.drew ?_ | refine Below.alloc ?_ (by simp; try omega) _ | refine Below.setCell ?_ (by simp; try omega) _)

set_option maxHeartbeats 1000000 in
theorem stepOfI_3 (d a b r l h t : Int) (w : World) :
    Calls Try.prog 79 #[.agg #[.int .i64 3, .int .i64 d, .int .i64 a, .int .i64 b, .int .i64 r, .int .i64 l, .int .i64 h, .int .i64 t]] w fun e w' => e = .returned (.iface 160 (.agg #[.int .i64 3, .int .i64 d, .int .i64 a, .int .i64 b])) ∧ Below w.heap.size w w' := by
  go_enter Try.func79, Try.ntmps79
  go_wp2
  go_ret
  refine ⟨rfl, ?_⟩
  repeat (first | exact Below.refl _ _ | refine Below.drew ?_ | refine Below.alloc ?_ (by simp; try omega) _ | refine Below.setCell ?_ (by simp; try omega) _)

set_option maxHeartbeats 1000000 in
theorem stepOfI_4 (d a b r l h t : Int) (w : World) :
    Calls Try.prog 79 #[.agg #[.int .i64 4, .int .i64 d, .int .i64 a, .int .i64 b, .int .i64 r, .int .i64 l, .int .i64 h, .int .i64 t]] w fun e w' => e = .returned (.iface 160 (.agg #[.int .i64 4, .int .i64 d, .int .i64 a, .int .i64 b])) ∧ Below w.heap.size w w' := by
  go_enter Try.func79, Try.ntmps79
  go_wp2
  go_ret
  refine ⟨rfl, ?_⟩
  repeat (first | exact Below.refl _ _ | refine Below.drew ?_ | refine Below.alloc ?_ (by simp; try omega) _ | refine Below.setCell ?_ (by simp; try omega) _)

set_option maxHeartbeats 1000000 in
theorem stepOfI_5 (d a b r l h t : Int) (w : World) :
    Calls Try.prog 79 #[.agg #[.int .i64 5, .int .i64 d, .int .i64 a, .int .i64 b, .int .i64 r, .int .i64 l, .int .i64 h, .int .i64 t]] w fun e w' => e = .returned (.iface 171 (.agg #[.int .i64 d, .int .i64 l, .int .i64 h])) ∧ Below w.heap.size w w' := by
  go_enter Try.func79, Try.ntmps79
  go_wp2
  go_ret
  refine ⟨rfl, ?_⟩
  repeat (first | exact Below.refl _ _ | refine Below.drew ?_ | refine Below.alloc ?_ (by simp; try omega) _ | refine Below.setCell ?_ (by simp; try omega) _)

set_option maxHeartbeats 1000000 in
theorem stepOfI_6 (d a b r l h t : Int) (w : World) :
    Calls Try.prog 79 #[.agg #[.int .i64 6, .int .i64 d, .int .i64 a, .int .i64 b, .int .i64 r, .int .i64 l, .int .i64 h, .int .i64 t]] w fun e w' => e = .returned (.iface 162 (.agg #[.int .i64 d, .int .i64 a])) ∧ Below w.heap.size w w' := by
  go_enter Try.func79, Try.ntmps79
  go_wp2
  go_ret
  refine ⟨rfl, ?_⟩
  repeat (first | exact Below.refl _ _ | refine Below.drew ?_ | refine Below.alloc ?_ (by simp; try omega) _ | refine Below.setCell ?_ (by simp; try omega) _)

set_option maxHeartbeats 1000000 in
theorem stepOfI_7 (d a b r l h t : Int) (w : World) :
    Calls Try.prog 79 #[.agg #[.int .i64 7, .int .i64 d, .int .i64 a, .int .i64 b, .int .i64 r, .int .i64 l, .int .i64 h, .int .i64 t]] w fun e w' => e = .returned (.iface 164 (.agg #[.int .i64 a, .int .i64 b])) ∧ Below w.heap.size w w' := by
  go_enter Try.func79, Try.ntmps79
  go_wp2
  go_ret
  refine ⟨rfl, ?_⟩
  repeat (first | exact Below.refl _ _ | refine Below.drew ?_ | refine Below.alloc ?_ (by simp; try omega) _ | refine Below.setCell ?_ (by simp; try omega) _)

set_option maxHeartbeats 1000000 in
theorem stepOfI_8 (d a b r l h t : Int) (w : World) :
    Calls Try.prog 79 #[.agg #[.int .i64 8, .int .i64 d, .int .i64 a, .int .i64 b, .int .i64 r, .int .i64 l, .int .i64 h, .int .i64 t]] w fun e w' => e = .returned (.iface 173 (.agg #[.int .i64 a, .int .i64 r, .int .i64 b, .int .i64 t])) ∧ Below w.heap.size w w' := by
  go_enter Try.func79, Try.ntmps79
  go_wp2
  go_ret
  refine ⟨rfl, ?_⟩
  repeat (first | exact Below.refl _ _ | refine Below.drew ?_ | refine Below.alloc ?_ (by simp; try omega) _ | refine Below.setCell ?_ (by simp; try omega) _)

set_option maxHeartbeats 1000000 in
theorem stepOfI_9 (d a b r l h t : Int) (w : World) :
    Calls Try.prog 79 #[.agg #[.int .i64 9, .int .i64 d, .int .i64 a, .int .i64 b, .int .i64 r, .int .i64 l, .int .i64 h, .int .i64 t]] w fun e w' => e = .returned (.iface 175 (.agg #[.int .i64 t])) ∧ Below w.heap.size w w' := by
  go_enter Try.func79, Try.ntmps79
  go_wp2
  go_ret
  refine ⟨rfl, ?_⟩
  repeat (first | exact Below.refl _ _ | refine Below.drew ?_ | refine Below.alloc ?_ (by simp; try omega) _ | refine Below.setCell ?_ (by simp; try omega) _)

set_option maxHeartbeats 1000000 in
theorem stepOfI_10 (d a b r l h t : Int) (w : World) :
    Calls Try.prog 79 #[.agg #[.int .i64 10, .int .i64 d, .int .i64 a, .int .i64 b, .int .i64 r, .int .i64 l, .int .i64 h, .int .i64 t]] w fun e w' => e = .returned (.iface 166 (.agg #[.int .i64 d, .int .i64 t, .int .i64 a])) ∧ Below w.heap.size w w' := by
  go_enter Try.func79, Try.ntmps79
  go_wp2
  go_ret
  refine ⟨rfl, ?_⟩
  repeat (first | exact Below.refl _ _ | refine Below.drew ?_ | refine Below.alloc ?_ (by simp; try omega) _ | refine Below.setCell ?_ (by simp; try omega) _)

set_option maxHeartbeats 1000000 in
theorem stepOfI_11 (d a b r l h t : Int) (w : World) :
    Calls Try.prog 79 #[.agg #[.int .i64 11, .int .i64 d, .int .i64 a, .int .i64 b, .int .i64 r, .int .i64 l, .int .i64 h, .int .i64 t]] w fun e w' => e = .returned (.iface 169 (.agg #[.int .i64 a, .int .i64 r, .int .i64 b])) ∧ Below w.heap.size w w' := by
  go_enter Try.func79, Try.ntmps79
  go_wp2
  go_ret
  refine ⟨rfl, ?_⟩
  repeat (first | exact Below.refl _ _ | refine Below.drew ?_ | refine Below.alloc ?_ (by simp; try omega) _ | refine Below.setCell ?_ (by simp; try omega) _)

set_option maxHeartbeats 1000000 in
theorem stepOfI_12 (d a b r l h t : Int) (w : World) :
    Calls Try.prog 79 #[.agg #[.int .i64 12, .int .i64 d, .int .i64 a, .int .i64 b, .int .i64 r, .int .i64 l, .int .i64 h, .int .i64 t]] w fun e w' => e = .returned (.iface 177 (.agg #[.int .i64 a])) ∧ Below w.heap.size w w' := by
  go_enter Try.func79, Try.ntmps79
  go_wp2
  go_ret
  refine ⟨rfl, ?_⟩
  repeat (first | exact Below.refl _ _ | refine Below.drew ?_ | refine Below.alloc ?_ (by simp; try omega) _ | refine Below.setCell ?_ (by simp; try omega) _)

set_option maxHeartbeats 1000000 in
theorem stepOfI_0 (o d a b r l h t : Int) (ho : inB o 1 12 = false) (w : World) :
    Calls Try.prog 79 #[.agg #[.int .i64 o, .int .i64 d, .int .i64 a, .int .i64 b, .int .i64 r, .int .i64 l, .int .i64 h, .int .i64 t]] w fun e w' => e = .returned .nilIface ∧ Below w.heap.size w w' := by
  have n : ∀ k : Int, 1 ≤ k → k ≤ 12 → ¬ o = k := fun k h1 h2 e => by subst e; simp [inB, h1, h2] at ho
  have n1 : ¬ o = 1 := n 1 (by omega) (by omega)
  have n2 : ¬ o = 2 := n 2 (by omega) (by omega)
  have n3 : ¬ o = 3 := n 3 (by omega) (by omega)
  have n4 : ¬ o = 4 := n 4 (by omega) (by omega)
  have n5 : ¬ o = 5 := n 5 (by omega) (by omega)
  have n6 : ¬ o = 6 := n 6 (by omega) (by omega)
  have n7 : ¬ o = 7 := n 7 (by omega) (by omega)
  have n8 : ¬ o = 8 := n 8 (by omega) (by omega)
  have n9 : ¬ o = 9 := n 9 (by omega) (by omega)
  have n10 : ¬ o = 10 := n 10 (by omega) (by omega)
  have n11 : ¬ o = 11 := n 11 (by omega) (by omega)
  have n12 : ¬ o = 12 := n 12 (by omega) (by omega)
  clear n
  go_enter Try.func79, Try.ntmps79
  go_wp2
  go_ret
  refine ⟨rfl, ?_⟩
  repeat (first | exact Below.refl _ _ | refine Below.drew ?_ | refine Below.alloc ?_ (by simp; try omega) _ | refine Below.setCell ?_ (by simp; try omega) _)

set_option maxRecDepth 10000 in
set_option maxHeartbeats 4000000 in
theorem insOkI_nil (o d a b r l h t p s : Int) (w : World) (hstep : ∀ w, Calls Try.prog 79 #[.agg #[.int .i64 o, .int .i64 d, .int .i64 a, .int .i64 b, .int .i64 r, .int .i64 l, .int .i64 h, .int .i64 t]] w fun e w' => e = .returned .nilIface ∧ Below w.heap.size w w') :
    Calls Try.prog 103 #[.agg #[.int .i64 o, .int .i64 d, .int .i64 a, .int .i64 b, .int .i64 r, .int .i64 l, .int .i64 h, .int .i64 t], .int .i64 p, .int .i64 s] w fun e w' => e = .returned (.bool false) ∧ Below w.heap.size w w' := by
  have b0 : Below w.heap.size w (w.alloc (.cells #[.int .i64 o, .int .i64 d, .int .i64 a, .int .i64 b, .int .i64 r, .int .i64 l, .int .i64 h, .int .i64 t] 72)) := (Below.refl _ _).alloc (Nat.le_refl _) _
  go_enter Try.func103, Try.ntmps103
  go_wp2_with fail
  refine (hstep _).mono ?_
  rintro e w1 ⟨rfl, hb⟩
  have b2 := b0.trans (hb.mono (by simp))
  obtain ⟨hc, hf⟩ := bcell hb
  go_wp2_with fail
  first | go_region_with fail | fail
  all_goals go_wp2_with fail
  all_goals go_ret
  all_goals exact ⟨rfl, b2.drew⟩

end Go.Proofs.Ytdpkbbbfnmneiaa
