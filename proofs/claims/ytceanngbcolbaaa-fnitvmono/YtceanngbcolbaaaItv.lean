/- Contracts of chapter 2's functions: the model's (S). Each answers what the plain functions say, whatever the ends are; it makes memory of its own alone. -/
import Derived.Test.YtceanngbcolbaaaNums
import Derived.Test.YtceanngbcolbaaaPlainItv
import Derived.Test.YtceanngbcolbaaaHeld
import Derived.WalkKit
import Derived.ProofKit
import Derived.OpenShut
import Derived.Below
namespace Go.Proofs.Ytceanngbcolbaaa
open Go.ChangeShapes Go.WideShapes Go.ChangeAt Go.RowKit

theorem itvOkS (a b : Int) (w : World) :
    Calls Try.prog 11 #[.agg #[.int .i64 a, .int .i64 b]] w fun e w' => e = .returned (.bool (itvOk a b)) ∧ Below w.heap.size w w' := by
  have hbel := (Below.refl w.heap.size w).alloc (Nat.le_refl _) (.cells #[.int .i64 a, .int .i64 b] 24)
  rcases Bool.eq_false_or_eq_true (okB a) with ha | ha
  · rcases Bool.eq_false_or_eq_true (okB b) with hb | hb
    · go_enter Try.func11, Try.ntmps11
      go_wp2_with (go_at_call 41; refine (okS _ _).mono ?_; rintro e w' ⟨rfl, rfl⟩)
      all_goals go_ret
      all_goals exact ⟨ret_bool (by simp [itvOk, ha, hb]), hbel⟩
    · go_enter Try.func11, Try.ntmps11
      go_wp2_with (go_at_call 41; refine (okS _ _).mono ?_; rintro e w' ⟨rfl, rfl⟩)
      all_goals go_ret
      all_goals exact ⟨ret_bool (by simp [itvOk, hb]), hbel⟩
  · go_enter Try.func11, Try.ntmps11
    go_wp2_with (go_at_call 41; refine (okS _ _).mono ?_; rintro e w' ⟨rfl, rfl⟩)
    all_goals go_ret
    all_goals exact ⟨ret_bool (by simp [itvOk, ha]), hbel⟩

theorem itvAllS (w : World) :
    Calls Try.prog 58 #[] w fun e w' => e = .returned (.agg #[.int .i64 (-32768), .int .i64 32767]) ∧ Below w.heap.size w w' := by
  go_enter Try.func58, Try.ntmps58
  go_wp2
  refine bodyPost_ret (v := .agg #[.int .i64 (-32768), .int .i64 32767]) (by simp [results, Try.results58, go_sem]) rfl ⟨rfl, ?_⟩
  repeat (first | exact Below.refl _ _ | refine Below.drew ?_ | refine Below.alloc ?_ (by simp; try omega) _ | refine Below.setCell ?_ (by simp; try omega) _)

theorem inS1 (n lo hi : Int) (w : World) :
    Calls Try.prog 56 #[.int .i64 n, .int .i64 lo, .int .i64 hi] w fun e w' => e = .returned (.bool (decide (lo ≤ n) && decide (n ≤ hi))) ∧ w' = w := by
  by_cases h1 : lo ≤ n
  · by_cases h2 : n ≤ hi
    · go_enter Try.func56, Try.ntmps56
      go_wp2
      all_goals go_ret
      all_goals exact ⟨ret_bool (by simp [h1, h2]), rfl⟩
    · go_enter Try.func56, Try.ntmps56
      go_wp2
      all_goals go_ret
      all_goals exact ⟨ret_bool (by simp [h2]), rfl⟩
  · go_enter Try.func56, Try.ntmps56
    go_wp2
    all_goals go_ret
    all_goals exact ⟨ret_bool (by simp; omega), rfl⟩

end Go.Proofs.Ytceanngbcolbaaa
