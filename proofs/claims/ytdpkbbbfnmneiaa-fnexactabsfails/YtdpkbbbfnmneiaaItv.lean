/- Contracts of chapter 2's functions: the model's (S). Each answers what the plain functions say, whatever the ends are; it makes memory of its own alone. -/
import Derived.Test.YtdpkbbbfnmneiaaNums
import Derived.Test.YtdpkbbbfnmneiaaPlainItv
import Derived.Test.YtdpkbbbfnmneiaaHeld
import Derived.WalkKit
import Derived.ProofKit
import Derived.OpenShut
import Derived.Below
namespace Go.Proofs.Ytdpkbbbfnmneiaa
open Go.ChangeShapes Go.WideShapes Go.ChangeAt Go.RowKit

theorem toItv (a b : Int) (w : World) :
    Calls Try.prog 75 #[.agg #[.int .i64 a, .int .i64 b]] w fun e w' => e = .returned (.agg #[.int .i64 a, .int .i64 b]) ∧ Below w.heap.size w w' := by
  go_enter Try.func75, Try.ntmps75
  go_wp2
  refine bodyPost_ret (v := .agg #[.int .i64 a, .int .i64 b]) (by simp [results, Try.results75, go_sem]) rfl ⟨rfl, ?_⟩
  repeat (first | exact Below.refl _ _ | refine Below.drew ?_ | refine Below.alloc ?_ (by simp; try omega) _ | refine Below.setCell ?_ (by simp; try omega) _)

theorem eqItv (a b c d : Int) (w : World) :
    Calls Try.prog 81 #[.agg #[.int .i64 a, .int .i64 b], .agg #[.int .i64 c, .int .i64 d]] w fun e w' => e = .returned (.bool (a == c && b == d)) ∧ Below w.heap.size w w' := by
  by_cases h1 : a = c
  · subst h1
    by_cases h2 : b = d
    · subst h2
      go_enter Try.func81, Try.ntmps81
      go_wp2
      go_ret
      refine ⟨ret_bool (by simp), ?_⟩
      repeat (first | exact Below.refl _ _ | refine Below.drew ?_ | refine Below.alloc ?_ (by simp; try omega) _ | refine Below.setCell ?_ (by simp; try omega) _)
    · have g2 : (b == d) = false := by simpa using h2
      go_enter Try.func81, Try.ntmps81
      go_wp2
      all_goals go_ret
      all_goals refine ⟨ret_bool (by simp [g2]), ?_⟩
      all_goals repeat (first | exact Below.refl _ _ | refine Below.drew ?_ | refine Below.alloc ?_ (by simp; try omega) _ | refine Below.setCell ?_ (by simp; try omega) _)
  · have g1 : (a == c) = false := by simpa using h1
    go_enter Try.func81, Try.ntmps81
    go_wp2
    all_goals go_ret
    all_goals refine ⟨ret_bool (by simp [g1]), ?_⟩
    all_goals repeat (first | exact Below.refl _ _ | refine Below.drew ?_ | refine Below.alloc ?_ (by simp; try omega) _ | refine Below.setCell ?_ (by simp; try omega) _)

theorem itvOkS (a b : Int) (w : World) :
    Calls Try.prog 87 #[.agg #[.int .i64 a, .int .i64 b]] w fun e w' => e = .returned (.bool (itvOk a b)) ∧ Below w.heap.size w w' := by
  have hbel := (Below.refl w.heap.size w).alloc (Nat.le_refl _) (.cells #[.int .i64 a, .int .i64 b] 75)
  rcases Bool.eq_false_or_eq_true (okB a) with ha | ha
  · rcases Bool.eq_false_or_eq_true (okB b) with hb | hb
    · go_enter Try.func87, Try.ntmps87
      go_wp2_with (go_at_call 112; refine (okS _ _).mono ?_; rintro e w' ⟨rfl, rfl⟩)
      all_goals go_ret
      all_goals exact ⟨ret_bool (by simp [itvOk, ha, hb]), hbel⟩
    · go_enter Try.func87, Try.ntmps87
      go_wp2_with (go_at_call 112; refine (okS _ _).mono ?_; rintro e w' ⟨rfl, rfl⟩)
      all_goals go_ret
      all_goals exact ⟨ret_bool (by simp [itvOk, hb]), hbel⟩
  · go_enter Try.func87, Try.ntmps87
    go_wp2_with (go_at_call 112; refine (okS _ _).mono ?_; rintro e w' ⟨rfl, rfl⟩)
    all_goals go_ret
    all_goals exact ⟨ret_bool (by simp [itvOk, ha]), hbel⟩

theorem inS1 (n lo hi : Int) (w : World) :
    Calls Try.prog 56 #[.int .i64 n, .int .i64 lo, .int .i64 hi] w fun e w' => e = .returned (.bool (decide (lo ≤ n) && decide (n ≤ hi))) ∧ w' = w := by
  by_cases h1 : lo ≤ n
  · by_cases h2 : n ≤ hi
    · go_enter Try.func56, Try.ntmps56
      go_wp2
      all_goals go_ret
      all_goals exact ⟨ret_bool (by simp [h1, h2]), rfl⟩
    · go_enter Try.func56, Try.ntmps56
      go_wp2
      all_goals go_ret
      all_goals exact ⟨ret_bool (by simp [h2]), rfl⟩
  · go_enter Try.func56, Try.ntmps56
    go_wp2
    all_goals go_ret
    all_goals exact ⟨ret_bool (by simp; omega), rfl⟩

set_option maxHeartbeats 1000000 in
theorem itvHasS (a b n : Int) (w : World) :
    Calls Try.prog 69 #[.agg #[.int .i64 a, .int .i64 b], .int .i64 n] w fun e w' => e = .returned (.bool (itvHas a b n)) ∧ Below w.heap.size w w' := by
  cases h : itvOk a b
  · go_enter Try.func69, Try.ntmps69
    go_wp2_with fail
    refine (itvOkS _ _ _).mono ?_
    rintro e w1 ⟨rfl, hb⟩
    have b1 := ((Below.refl w.heap.size w).alloc (Nat.le_refl _) _).trans (hb.mono (by simp))
    go_wp2_with fail
    go_ret
    exact ⟨ret_bool (by simp [itvHas, h]), b1⟩
  · go_enter Try.func69, Try.ntmps69
    go_wp2_with fail
    refine (itvOkS _ _ _).mono ?_
    rintro e w1 ⟨rfl, hb⟩
    have b1 := ((Below.refl w.heap.size w).alloc (Nat.le_refl _) _).trans (hb.mono (by simp))
    obtain ⟨hc, hf⟩ := bcell hb
    go_wp2_with (go_at_call 56; refine (inS1 _ _ _ _).mono ?_; rintro e w' ⟨rfl, rfl⟩)
    go_ret
    exact ⟨ret_bool (by simp [itvHas, h]), b1⟩

set_option maxHeartbeats 1000000 in
theorem itvInS (a b c d : Int) (w : World) :
    Calls Try.prog 70 #[.agg #[.int .i64 a, .int .i64 b], .agg #[.int .i64 c, .int .i64 d]] w fun e w' => e = .returned (.bool (itvIn a b c d)) ∧ Below w.heap.size w w' := by
  go_enter Try.func70, Try.ntmps70
  go_wp2_with fail
  refine (itvOkS _ _ _).mono ?_
  rintro e w1 ⟨rfl, hb⟩
  have b1 := (((Below.refl w.heap.size w).alloc (Nat.le_refl _) (.cells #[.int .i64 a, .int .i64 b] 75)).alloc (by simp) (.cells #[.int .i64 c, .int .i64 d] 75)).trans (hb.mono (by simp; omega))
  obtain ⟨hc, hf⟩ := bcell hb
  cases h : itvOk a b
  · go_wp2_with fail
    go_ret
    exact ⟨ret_bool (by simp [itvIn, h]), b1⟩
  go_wp2_with fail
  refine (itvOkS _ _ _).mono ?_
  rintro e w2 ⟨rfl, hb'⟩
  have b2 := b1.trans (hb'.mono b1.size)
  obtain ⟨hc2, hf2⟩ := bcell (below_tr hb hb')
  clear hc hf
  cases h' : itvOk c d
  · go_wp2_with fail
    go_ret
    exact ⟨ret_bool (by simp [itvIn, h']), b2⟩
  by_cases h1 : c ≤ a
  · by_cases h2 : b ≤ d
    · go_wp2_with fail
      go_ret
      exact ⟨ret_bool (by simp [itvIn, h, h', h1, h2]), b2⟩
    · go_wp2_with fail
      go_ret
      exact ⟨ret_bool (by simp [itvIn, h, h', h1]), b2⟩
  · go_wp2_with fail
    go_ret
    exact ⟨ret_bool (by simp [itvIn, h, h']; omega), b2⟩

end Go.Proofs.Ytdpkbbbfnmneiaa
