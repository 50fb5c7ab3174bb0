/- Contracts of chapter 2's functions: the program's (I). Each answers what the plain functions say, whatever the ends are; it makes memory of its own alone. -/
import Derived.Test.YtdpkbbbfnmneiaaItv
import Derived.WalkKit
import Derived.ProofKit
import Derived.OpenShut
import Derived.Below
namespace Go.Proofs.Ytdpkbbbfnmneiaa
open Go.ChangeShapes Go.WideShapes Go.ChangeAt Go.RowKit

theorem itvOkI (a b : Int) (w : World) :
    Calls Try.prog 92 #[.agg #[.int .i64 a, .int .i64 b]] w fun e w' => e = .returned (.bool (itvOk a b)) ∧ Below w.heap.size w w' := by
  have hbel := (Below.refl w.heap.size w).alloc (Nat.le_refl _) (.cells #[.int .i64 a, .int .i64 b] 75)
  rcases Bool.eq_false_or_eq_true (okB a) with ha | ha
  · rcases Bool.eq_false_or_eq_true (okB b) with hb | hb
    · go_enter Try.func92, Try.ntmps92
      go_wp2_with (go_at_call 114; refine (okI _ _).mono ?_; rintro e w' ⟨rfl, rfl⟩)
      all_goals go_ret
      all_goals exact ⟨ret_bool (by simp [itvOk, ha, hb]), hbel⟩
    · go_enter Try.func92, Try.ntmps92
      go_wp2_with (go_at_call 114; refine (okI _ _).mono ?_; rintro e w' ⟨rfl, rfl⟩)
      all_goals go_ret
      all_goals exact ⟨ret_bool (by simp [itvOk, hb]), hbel⟩
  · go_enter Try.func92, Try.ntmps92
    go_wp2_with (go_at_call 114; refine (okI _ _).mono ?_; rintro e w' ⟨rfl, rfl⟩)
    all_goals go_ret
    all_goals exact ⟨ret_bool (by simp [itvOk, ha]), hbel⟩

set_option maxHeartbeats 1000000 in
theorem itvHasI (a b n : Int) (w : World) :
    Calls Try.prog 105 #[.agg #[.int .i64 a, .int .i64 b], .int .i64 n] w fun e w' => e = .returned (.bool (itvHas a b n)) ∧ Below w.heap.size w w' := by
  cases h : itvOk a b
  · go_enter Try.func105, Try.ntmps105
    go_wp2_with fail
    refine (itvOkI _ _ _).mono ?_
    rintro e w1 ⟨rfl, hb⟩
    have b1 := ((Below.refl w.heap.size w).alloc (Nat.le_refl _) _).trans (hb.mono (by simp))
    go_wp2_with fail
    go_ret
    exact ⟨ret_bool (by simp [itvHas, h]), b1⟩
  · go_enter Try.func105, Try.ntmps105
    go_wp2_with fail
    refine (itvOkI _ _ _).mono ?_
    rintro e w1 ⟨rfl, hb⟩
    have b1 := ((Below.refl w.heap.size w).alloc (Nat.le_refl _) _).trans (hb.mono (by simp))
    obtain ⟨hc, hf⟩ := bcell hb
    by_cases h1 : a ≤ n
    · by_cases h2 : n ≤ b
      · go_wp2_with fail
        go_ret
        exact ⟨ret_bool (by simp [itvHas, h, h1, h2]), b1⟩
      · go_wp2_with fail
        go_ret
        exact ⟨ret_bool (by simp [itvHas, h, h1]), b1⟩
    · go_wp2_with fail
      go_ret
      exact ⟨ret_bool (by simp [itvHas, h]; omega), b1⟩

set_option maxHeartbeats 1000000 in
theorem itvInI (a b c d : Int) (w : World) :
    Calls Try.prog 106 #[.agg #[.int .i64 a, .int .i64 b], .agg #[.int .i64 c, .int .i64 d]] w fun e w' => e = .returned (.bool (itvIn a b c d)) ∧ Below w.heap.size w w' := by
  go_enter Try.func106, Try.ntmps106
  go_wp2_with fail
  refine (itvOkI _ _ _).mono ?_
  rintro e w1 ⟨rfl, hb⟩
  have b1 := (((Below.refl w.heap.size w).alloc (Nat.le_refl _) (.cells #[.int .i64 a, .int .i64 b] 75)).alloc (by simp) (.cells #[.int .i64 c, .int .i64 d] 75)).trans (hb.mono (by simp; omega))
  obtain ⟨hc, hf⟩ := bcell hb
  cases h : itvOk a b
  · go_wp2_with fail
    go_ret
    exact ⟨ret_bool (by simp [itvIn, h]), b1⟩
  go_wp2_with fail
  refine (itvOkI _ _ _).mono ?_
  rintro e w2 ⟨rfl, hb'⟩
  have b2 := b1.trans (hb'.mono b1.size)
  obtain ⟨hc2, hf2⟩ := bcell (below_tr hb hb')
  clear hc hf
  cases h' : itvOk c d
  · go_wp2_with fail
    go_ret
    exact ⟨ret_bool (by simp [itvIn, h']), b2⟩
  by_cases h1 : c ≤ a
  · by_cases h2 : b ≤ d
    · go_wp2_with fail
      go_ret
      exact ⟨ret_bool (by simp [itvIn, h, h', h1, h2]), b2⟩
    · go_wp2_with fail
      go_ret
      exact ⟨ret_bool (by simp [itvIn, h, h', h1]), b2⟩
  · go_wp2_with fail
    go_ret
    exact ⟨ret_bool (by simp [itvIn, h, h']; omega), b2⟩

theorem meet_ok {a b c d : Int} (h1 : itvOk a b = true) (h2 : itvOk c d = true) : itvOk (max a c) (min b d) = meetOk a b c d := by
  have k1 := itvOk_of h1
  have k2 := itvOk_of h2
  have a1 := ok_lo k1.1
  have a2 := ok_hi k1.1
  have a3 := ok_lo k1.2.1
  have a4 := ok_hi k1.2.1
  have a5 := ok_lo k2.1
  have a6 := ok_hi k2.1
  have a7 := ok_lo k2.2.1
  have a8 := ok_hi k2.2.1
  have e1 : okB (max a c) = true := by simp [okB]; omega
  have e2 : okB (min b d) = true := by simp [okB]; omega
  rw [meetOk, two, h1, h2, itvOk, e1, e2]
theorem overlapI (a b c d : Int) (w : World) :
    Calls Try.prog 173 #[.agg #[.int .i64 a, .int .i64 b], .agg #[.int .i64 c, .int .i64 d]] w fun e w' => e = .returned (.agg #[.int .i64 (max a c), .int .i64 (min b d)]) ∧ Below w.heap.size w w' := by
  go_enter Try.func173, Try.ntmps173
  go_wp2_with fail
  all_goals (refine bodyPost_ret (v := .agg #[.int .i64 (max a c), .int .i64 (min b d)]) (by simp [results, Try.results173, go_sem]; try omega) rfl ⟨rfl, ?_⟩)
  all_goals (repeat (first | exact Below.refl _ _ | refine Below.drew ?_ | refine Below.alloc ?_ (by simp; try omega) _ | refine Below.setCell ?_ (by simp; try omega) _))

end Go.Proofs.Ytdpkbbbfnmneiaa
