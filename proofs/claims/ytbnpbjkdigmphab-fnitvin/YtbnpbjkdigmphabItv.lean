/- Contracts of chapter 2's functions: the model's (S). Each answers what the plain functions say, whatever the ends are; it makes memory of its own alone. -/
import Derived.Test.YtbnpbjkdigmphabNums
import Derived.Test.YtbnpbjkdigmphabPlainItv
import Derived.Test.YtbnpbjkdigmphabHeld
import Derived.WalkKit
import Derived.ProofKit
import Derived.OpenShut
import Derived.Below
namespace Go.Proofs.Ytbnpbjkdigmphab
open Go.ChangeShapes Go.WideShapes Go.ChangeAt Go.RowKit

theorem itvOkS (a b : Int) (w : World) :
    Calls Try.prog 18 #[.agg #[.int .i64 a, .int .i64 b]] w fun e w' => e = .returned (.bool (itvOk a b)) ∧ Below w.heap.size w w' := by
  have hbel := (Below.refl w.heap.size w).alloc (Nat.le_refl _) (.cells #[.int .i64 a, .int .i64 b] 29)
  rcases Bool.eq_false_or_eq_true (okB a) with ha | ha
  · rcases Bool.eq_false_or_eq_true (okB b) with hb | hb
    · go_enter Try.func18, Try.ntmps18
      go_wp2_with (go_at_call 13; refine (okS _ _).mono ?_; rintro e w' ⟨rfl, rfl⟩)
      all_goals go_ret
      all_goals exact ⟨ret_bool (by simp [itvOk, ha, hb]), hbel⟩
    · go_enter Try.func18, Try.ntmps18
      go_wp2_with (go_at_call 13; refine (okS _ _).mono ?_; rintro e w' ⟨rfl, rfl⟩)
      all_goals go_ret
      all_goals exact ⟨ret_bool (by simp [itvOk, hb]), hbel⟩
  · go_enter Try.func18, Try.ntmps18
    go_wp2_with (go_at_call 13; refine (okS _ _).mono ?_; rintro e w' ⟨rfl, rfl⟩)
    all_goals go_ret
    all_goals exact ⟨ret_bool (by simp [itvOk, ha]), hbel⟩

theorem itvAllS (w : World) :
    Calls Try.prog 28 #[] w fun e w' => e = .returned (.agg #[.int .i64 (-32768), .int .i64 32767]) ∧ Below w.heap.size w w' := by
  go_enter Try.func28, Try.ntmps28
  go_wp2
  refine bodyPost_ret (v := .agg #[.int .i64 (-32768), .int .i64 32767]) (by simp [results, Try.results28, go_sem]) rfl ⟨rfl, ?_⟩
  repeat (first | exact Below.refl _ _ | refine Below.drew ?_ | refine Below.alloc ?_ (by simp; try omega) _ | refine Below.setCell ?_ (by simp; try omega) _)

theorem inS1 (n lo hi : Int) (w : World) :
    Calls Try.prog 24 #[.int .i64 n, .int .i64 lo, .int .i64 hi] w fun e w' => e = .returned (.bool (decide (lo ≤ n) && decide (n ≤ hi))) ∧ w' = w := by
  by_cases h1 : lo ≤ n
  · by_cases h2 : n ≤ hi
    · go_enter Try.func24, Try.ntmps24
      go_wp2
      all_goals go_ret
      all_goals exact ⟨ret_bool (by simp [h1, h2]), rfl⟩
    · go_enter Try.func24, Try.ntmps24
      go_wp2
      all_goals go_ret
      all_goals exact ⟨ret_bool (by simp [h2]), rfl⟩
  · go_enter Try.func24, Try.ntmps24
    go_wp2
    all_goals go_ret
    all_goals exact ⟨ret_bool (by simp; omega), rfl⟩

set_option maxHeartbeats 1000000 in
theorem itvInS (a b c d : Int) (w : World) :
    Calls Try.prog 17 #[.agg #[.int .i64 a, .int .i64 b], .agg #[.int .i64 c, .int .i64 d]] w fun e w' => e = .returned (.bool (itvIn a b c d)) ∧ Below w.heap.size w w' := by
  go_enter Try.func17, Try.ntmps17
  go_wp2_with fail
  refine (itvOkS _ _ _).mono ?_
  rintro e w1 ⟨rfl, hb⟩
  have b1 := (((Below.refl w.heap.size w).alloc (Nat.le_refl _) (.cells #[.int .i64 a, .int .i64 b] 29)).alloc (by simp) (.cells #[.int .i64 c, .int .i64 d] 29)).trans (hb.mono (by simp; omega))
  obtain ⟨hc, hf⟩ := bcell hb
  cases h : itvOk a b
  · go_wp2_with fail
    go_ret
    exact ⟨ret_bool (by simp [itvIn, h]), b1⟩
  go_wp2_with fail
  refine (itvOkS _ _ _).mono ?_
  rintro e w2 ⟨rfl, hb'⟩
  have b2 := b1.trans (hb'.mono b1.size)
  obtain ⟨hc2, hf2⟩ := bcell (below_tr hb hb')
  clear hc hf
  cases h' : itvOk c d
  · go_wp2_with fail
    go_ret
    exact ⟨ret_bool (by simp [itvIn, h']), b2⟩
  by_cases h1 : c ≤ a
  · by_cases h2 : b ≤ d
    · go_wp2_with fail
      go_ret
      exact ⟨ret_bool (by simp [itvIn, h, h', h1, h2]), b2⟩
    · go_wp2_with fail
      go_ret
      exact ⟨ret_bool (by simp [itvIn, h, h', h1]), b2⟩
  · go_wp2_with fail
    go_ret
    exact ⟨ret_bool (by simp [itvIn, h, h']; omega), b2⟩

end Go.Proofs.Ytbnpbjkdigmphab
