/- Steps: what the laws do with them (copies, compares) and the model's InsOk, l3Form, l1In. Each answers what the plain functions say; it makes memory of its own alone. -/
import Derived.Test.YtdpkbbbfnmneiaaNums
import Derived.Test.YtdpkbbbfnmneiaaPlainIns
import Derived.Test.YtdpkbbbfnmneiaaHeld
import Derived.WalkKit
import Derived.ProofKit
import Derived.OpenShut
import Derived.Below
namespace Go.Proofs.Ytdpkbbbfnmneiaa
open Go.ChangeShapes Go.WideShapes Go.ChangeAt Go.RowKit

set_option maxHeartbeats 1000000 in
theorem toIns (o d a b r l h t : Int) (w : World) :
    Calls Try.prog 35 #[.agg #[.int .i64 o, .int .i64 d, .int .i64 a, .int .i64 b, .int .i64 r, .int .i64 l, .int .i64 h, .int .i64 t]] w fun e w' => e = .returned (.agg #[.int .i64 o, .int .i64 d, .int .i64 a, .int .i64 b, .int .i64 r, .int .i64 l, .int .i64 h, .int .i64 t]) ∧ Below w.heap.size w w' := by
  go_enter Try.func35, Try.ntmps35
  go_wp2
  refine bodyPost_ret (v := .agg #[.int .i64 o, .int .i64 d, .int .i64 a, .int .i64 b, .int .i64 r, .int .i64 l, .int .i64 h, .int .i64 t]) (by simp [results, Try.results35, go_sem]) rfl ⟨rfl, ?_⟩
  repeat (first | exact Below.refl _ _ | refine Below.drew ?_ | refine Below.alloc ?_ (by simp; try omega) _ | refine Below.setCell ?_ (by simp; try omega) _)

theorem inS (n x y : Int) (w : World) :
    Calls Try.prog 56 #[.int .i64 n, .int .i64 x, .int .i64 y] w fun e w' => e = .returned (.bool (inB n x y)) ∧ w' = w := by
  by_cases h1 : x ≤ n
  · go_enter Try.func56, Try.ntmps56
    go_wp2
    all_goals go_ret
    all_goals exact ⟨ret_bool (by simp [inB, h1]), rfl⟩
  · go_enter Try.func56, Try.ntmps56
    go_wp2
    all_goals go_ret
    all_goals exact ⟨ret_bool (by simp [inB]; omega), rfl⟩

set_option maxHeartbeats 1000000 in
theorem formS1 (d a b r l h t : Int) (w : World) :
    Calls Try.prog 119 #[.agg #[.int .i64 1, .int .i64 d, .int .i64 a, .int .i64 b, .int .i64 r, .int .i64 l, .int .i64 h, .int .i64 t]] w fun e w' => e = .returned (.agg #[.int .i64 0, .int .i64 0, .int .i64 0, .int .i64 0, .int .i64 r, .int .i64 l, .int .i64 h, .int .i64 t]) ∧ Below w.heap.size w w' := by
  go_enter Try.func119, Try.ntmps119
  go_wp2
  refine bodyPost_ret (v := .agg #[.int .i64 0, .int .i64 0, .int .i64 0, .int .i64 0, .int .i64 r, .int .i64 l, .int .i64 h, .int .i64 t]) (by simp [results, Try.results119, go_sem]) rfl ⟨rfl, ?_⟩
  repeat (first | exact Below.refl _ _ | refine Below.drew ?_ | refine Below.alloc ?_ (by simp; try omega) _ | refine Below.setCell ?_ (by simp; try omega) _)

set_option maxHeartbeats 1000000 in
theorem formS2 (d a b r l h t : Int) (w : World) :
    Calls Try.prog 119 #[.agg #[.int .i64 2, .int .i64 d, .int .i64 a, .int .i64 b, .int .i64 r, .int .i64 l, .int .i64 h, .int .i64 t]] w fun e w' => e = .returned (.agg #[.int .i64 0, .int .i64 0, .int .i64 0, .int .i64 0, .int .i64 r, .int .i64 l, .int .i64 h, .int .i64 t]) ∧ Below w.heap.size w w' := by
  go_enter Try.func119, Try.ntmps119
  go_wp2
  refine bodyPost_ret (v := .agg #[.int .i64 0, .int .i64 0, .int .i64 0, .int .i64 0, .int .i64 r, .int .i64 l, .int .i64 h, .int .i64 t]) (by simp [results, Try.results119, go_sem]) rfl ⟨rfl, ?_⟩
  repeat (first | exact Below.refl _ _ | refine Below.drew ?_ | refine Below.alloc ?_ (by simp; try omega) _ | refine Below.setCell ?_ (by simp; try omega) _)

set_option maxHeartbeats 1000000 in
theorem formS3 (d a b r l h t : Int) (w : World) :
    Calls Try.prog 119 #[.agg #[.int .i64 3, .int .i64 d, .int .i64 a, .int .i64 b, .int .i64 r, .int .i64 l, .int .i64 h, .int .i64 t]] w fun e w' => e = .returned (.agg #[.int .i64 0, .int .i64 0, .int .i64 0, .int .i64 0, .int .i64 r, .int .i64 l, .int .i64 h, .int .i64 t]) ∧ Below w.heap.size w w' := by
  go_enter Try.func119, Try.ntmps119
  go_wp2
  refine bodyPost_ret (v := .agg #[.int .i64 0, .int .i64 0, .int .i64 0, .int .i64 0, .int .i64 r, .int .i64 l, .int .i64 h, .int .i64 t]) (by simp [results, Try.results119, go_sem]) rfl ⟨rfl, ?_⟩
  repeat (first | exact Below.refl _ _ | refine Below.drew ?_ | refine Below.alloc ?_ (by simp; try omega) _ | refine Below.setCell ?_ (by simp; try omega) _)

set_option maxHeartbeats 1000000 in
theorem formS4 (d a b r l h t : Int) (w : World) :
    Calls Try.prog 119 #[.agg #[.int .i64 4, .int .i64 d, .int .i64 a, .int .i64 b, .int .i64 r, .int .i64 l, .int .i64 h, .int .i64 t]] w fun e w' => e = .returned (.agg #[.int .i64 0, .int .i64 0, .int .i64 0, .int .i64 0, .int .i64 r, .int .i64 l, .int .i64 h, .int .i64 t]) ∧ Below w.heap.size w w' := by
  go_enter Try.func119, Try.ntmps119
  go_wp2
  refine bodyPost_ret (v := .agg #[.int .i64 0, .int .i64 0, .int .i64 0, .int .i64 0, .int .i64 r, .int .i64 l, .int .i64 h, .int .i64 t]) (by simp [results, Try.results119, go_sem]) rfl ⟨rfl, ?_⟩
  repeat (first | exact Below.refl _ _ | refine Below.drew ?_ | refine Below.alloc ?_ (by simp; try omega) _ | refine Below.setCell ?_ (by simp; try omega) _)

set_option maxHeartbeats 1000000 in
theorem formS5 (d a b r l h t : Int) (w : World) :
    Calls Try.prog 119 #[.agg #[.int .i64 5, .int .i64 d, .int .i64 a, .int .i64 b, .int .i64 r, .int .i64 l, .int .i64 h, .int .i64 t]] w fun e w' => e = .returned (.agg #[.int .i64 0, .int .i64 0, .int .i64 a, .int .i64 b, .int .i64 r, .int .i64 0, .int .i64 0, .int .i64 t]) ∧ Below w.heap.size w w' := by
  go_enter Try.func119, Try.ntmps119
  go_wp2
  refine bodyPost_ret (v := .agg #[.int .i64 0, .int .i64 0, .int .i64 a, .int .i64 b, .int .i64 r, .int .i64 0, .int .i64 0, .int .i64 t]) (by simp [results, Try.results119, go_sem]) rfl ⟨rfl, ?_⟩
  repeat (first | exact Below.refl _ _ | refine Below.drew ?_ | refine Below.alloc ?_ (by simp; try omega) _ | refine Below.setCell ?_ (by simp; try omega) _)

set_option maxHeartbeats 1000000 in
theorem formS6 (d a b r l h t : Int) (w : World) :
    Calls Try.prog 119 #[.agg #[.int .i64 6, .int .i64 d, .int .i64 a, .int .i64 b, .int .i64 r, .int .i64 l, .int .i64 h, .int .i64 t]] w fun e w' => e = .returned (.agg #[.int .i64 0, .int .i64 0, .int .i64 0, .int .i64 b, .int .i64 r, .int .i64 l, .int .i64 h, .int .i64 t]) ∧ Below w.heap.size w w' := by
  go_enter Try.func119, Try.ntmps119
  go_wp2
  refine bodyPost_ret (v := .agg #[.int .i64 0, .int .i64 0, .int .i64 0, .int .i64 b, .int .i64 r, .int .i64 l, .int .i64 h, .int .i64 t]) (by simp [results, Try.results119, go_sem]) rfl ⟨rfl, ?_⟩
  repeat (first | exact Below.refl _ _ | refine Below.drew ?_ | refine Below.alloc ?_ (by simp; try omega) _ | refine Below.setCell ?_ (by simp; try omega) _)

set_option maxHeartbeats 1000000 in
theorem formS7 (d a b r l h t : Int) (w : World) :
    Calls Try.prog 119 #[.agg #[.int .i64 7, .int .i64 d, .int .i64 a, .int .i64 b, .int .i64 r, .int .i64 l, .int .i64 h, .int .i64 t]] w fun e w' => e = .returned (.agg #[.int .i64 0, .int .i64 d, .int .i64 0, .int .i64 0, .int .i64 r, .int .i64 l, .int .i64 h, .int .i64 t]) ∧ Below w.heap.size w w' := by
  go_enter Try.func119, Try.ntmps119
  go_wp2
  refine bodyPost_ret (v := .agg #[.int .i64 0, .int .i64 d, .int .i64 0, .int .i64 0, .int .i64 r, .int .i64 l, .int .i64 h, .int .i64 t]) (by simp [results, Try.results119, go_sem]) rfl ⟨rfl, ?_⟩
  repeat (first | exact Below.refl _ _ | refine Below.drew ?_ | refine Below.alloc ?_ (by simp; try omega) _ | refine Below.setCell ?_ (by simp; try omega) _)

set_option maxHeartbeats 1000000 in
theorem formS8 (d a b r l h t : Int) (w : World) :
    Calls Try.prog 119 #[.agg #[.int .i64 8, .int .i64 d, .int .i64 a, .int .i64 b, .int .i64 r, .int .i64 l, .int .i64 h, .int .i64 t]] w fun e w' => e = .returned (.agg #[.int .i64 0, .int .i64 d, .int .i64 0, .int .i64 0, .int .i64 0, .int .i64 l, .int .i64 h, .int .i64 0]) ∧ Below w.heap.size w w' := by
  go_enter Try.func119, Try.ntmps119
  go_wp2
  refine bodyPost_ret (v := .agg #[.int .i64 0, .int .i64 d, .int .i64 0, .int .i64 0, .int .i64 0, .int .i64 l, .int .i64 h, .int .i64 0]) (by simp [results, Try.results119, go_sem]) rfl ⟨rfl, ?_⟩
  repeat (first | exact Below.refl _ _ | refine Below.drew ?_ | refine Below.alloc ?_ (by simp; try omega) _ | refine Below.setCell ?_ (by simp; try omega) _)

set_option maxHeartbeats 1000000 in
theorem formS9 (d a b r l h t : Int) (w : World) :
    Calls Try.prog 119 #[.agg #[.int .i64 9, .int .i64 d, .int .i64 a, .int .i64 b, .int .i64 r, .int .i64 l, .int .i64 h, .int .i64 t]] w fun e w' => e = .returned (.agg #[.int .i64 0, .int .i64 d, .int .i64 a, .int .i64 b, .int .i64 r, .int .i64 l, .int .i64 h, .int .i64 0]) ∧ Below w.heap.size w w' := by
  go_enter Try.func119, Try.ntmps119
  go_wp2
  refine bodyPost_ret (v := .agg #[.int .i64 0, .int .i64 d, .int .i64 a, .int .i64 b, .int .i64 r, .int .i64 l, .int .i64 h, .int .i64 0]) (by simp [results, Try.results119, go_sem]) rfl ⟨rfl, ?_⟩
  repeat (first | exact Below.refl _ _ | refine Below.drew ?_ | refine Below.alloc ?_ (by simp; try omega) _ | refine Below.setCell ?_ (by simp; try omega) _)

set_option maxHeartbeats 1000000 in
theorem formS10 (d a b r l h t : Int) (w : World) :
    Calls Try.prog 119 #[.agg #[.int .i64 10, .int .i64 d, .int .i64 a, .int .i64 b, .int .i64 r, .int .i64 l, .int .i64 h, .int .i64 t]] w fun e w' => e = .returned (.agg #[.int .i64 0, .int .i64 0, .int .i64 0, .int .i64 b, .int .i64 r, .int .i64 l, .int .i64 h, .int .i64 0]) ∧ Below w.heap.size w w' := by
  go_enter Try.func119, Try.ntmps119
  go_wp2
  refine bodyPost_ret (v := .agg #[.int .i64 0, .int .i64 0, .int .i64 0, .int .i64 b, .int .i64 r, .int .i64 l, .int .i64 h, .int .i64 0]) (by simp [results, Try.results119, go_sem]) rfl ⟨rfl, ?_⟩
  repeat (first | exact Below.refl _ _ | refine Below.drew ?_ | refine Below.alloc ?_ (by simp; try omega) _ | refine Below.setCell ?_ (by simp; try omega) _)

set_option maxHeartbeats 1000000 in
theorem formS11 (d a b r l h t : Int) (w : World) :
    Calls Try.prog 119 #[.agg #[.int .i64 11, .int .i64 d, .int .i64 a, .int .i64 b, .int .i64 r, .int .i64 l, .int .i64 h, .int .i64 t]] w fun e w' => e = .returned (.agg #[.int .i64 0, .int .i64 d, .int .i64 0, .int .i64 0, .int .i64 0, .int .i64 l, .int .i64 h, .int .i64 t]) ∧ Below w.heap.size w w' := by
  go_enter Try.func119, Try.ntmps119
  go_wp2
  refine bodyPost_ret (v := .agg #[.int .i64 0, .int .i64 d, .int .i64 0, .int .i64 0, .int .i64 0, .int .i64 l, .int .i64 h, .int .i64 t]) (by simp [results, Try.results119, go_sem]) rfl ⟨rfl, ?_⟩
  repeat (first | exact Below.refl _ _ | refine Below.drew ?_ | refine Below.alloc ?_ (by simp; try omega) _ | refine Below.setCell ?_ (by simp; try omega) _)

set_option maxHeartbeats 1000000 in
theorem formS12 (d a b r l h t : Int) (w : World) :
    Calls Try.prog 119 #[.agg #[.int .i64 12, .int .i64 d, .int .i64 a, .int .i64 b, .int .i64 r, .int .i64 l, .int .i64 h, .int .i64 t]] w fun e w' => e = .returned (.agg #[.int .i64 0, .int .i64 d, .int .i64 0, .int .i64 b, .int .i64 r, .int .i64 l, .int .i64 h, .int .i64 t]) ∧ Below w.heap.size w w' := by
  go_enter Try.func119, Try.ntmps119
  go_wp2
  refine bodyPost_ret (v := .agg #[.int .i64 0, .int .i64 d, .int .i64 0, .int .i64 b, .int .i64 r, .int .i64 l, .int .i64 h, .int .i64 t]) (by simp [results, Try.results119, go_sem]) rfl ⟨rfl, ?_⟩
  repeat (first | exact Below.refl _ _ | refine Below.drew ?_ | refine Below.alloc ?_ (by simp; try omega) _ | refine Below.setCell ?_ (by simp; try omega) _)

end Go.Proofs.Ytdpkbbbfnmneiaa
