/- Contracts of chapter 2's functions: the program's (I). Each answers what the plain functions say, whatever the ends are; it makes memory of its own alone. -/
import Derived.Test.YtiehokibfdaleaaItv
import Derived.WalkKit
import Derived.ProofKit
import Derived.OpenShut
import Derived.Below
namespace Go.Proofs.Ytiehokibfdaleaa
open Go.ChangeShapes Go.WideShapes Go.ChangeAt Go.RowKit

theorem itvOkI (a b : Int) (w : World) :
    Calls Try.prog 42 #[.agg #[.int .i64 a, .int .i64 b]] w fun e w' => e = .returned (.bool (itvOk a b)) ∧ Below w.heap.size w w' := by
  have hbel := (Below.refl w.heap.size w).alloc (Nat.le_refl _) (.cells #[.int .i64 a, .int .i64 b] 25)
  rcases Bool.eq_false_or_eq_true (okB a) with ha | ha
  · rcases Bool.eq_false_or_eq_true (okB b) with hb | hb
    · go_enter Try.func42, Try.ntmps42
      go_wp2_with (go_at_call 29; refine (okI _ _).mono ?_; rintro e w' ⟨rfl, rfl⟩)
      all_goals go_ret
      all_goals exact ⟨ret_bool (by simp [itvOk, ha, hb]), hbel⟩
    · go_enter Try.func42, Try.ntmps42
      go_wp2_with (go_at_call 29; refine (okI _ _).mono ?_; rintro e w' ⟨rfl, rfl⟩)
      all_goals go_ret
      all_goals exact ⟨ret_bool (by simp [itvOk, hb]), hbel⟩
  · go_enter Try.func42, Try.ntmps42
    go_wp2_with (go_at_call 29; refine (okI _ _).mono ?_; rintro e w' ⟨rfl, rfl⟩)
    all_goals go_ret
    all_goals exact ⟨ret_bool (by simp [itvOk, ha]), hbel⟩

set_option maxHeartbeats 1000000 in
theorem itvHasI (a b n : Int) (w : World) :
    Calls Try.prog 40 #[.agg #[.int .i64 a, .int .i64 b], .int .i64 n] w fun e w' => e = .returned (.bool (itvHas a b n)) ∧ Below w.heap.size w w' := by
  cases h : itvOk a b
  · go_enter Try.func40, Try.ntmps40
    go_wp2_with fail
    refine (itvOkI _ _ _).mono ?_
    rintro e w1 ⟨rfl, hb⟩
    have b1 := ((Below.refl w.heap.size w).alloc (Nat.le_refl _) _).trans (hb.mono (by simp))
    go_wp2_with fail
    go_ret
    exact ⟨ret_bool (by simp [itvHas, h]), b1⟩
  · go_enter Try.func40, Try.ntmps40
    go_wp2_with fail
    refine (itvOkI _ _ _).mono ?_
    rintro e w1 ⟨rfl, hb⟩
    have b1 := ((Below.refl w.heap.size w).alloc (Nat.le_refl _) _).trans (hb.mono (by simp))
    obtain ⟨hc, hf⟩ := bcell hb
    by_cases h1 : a ≤ n
    · by_cases h2 : n ≤ b
      · go_wp2_with fail
        go_ret
        exact ⟨ret_bool (by simp [itvHas, h, h1, h2]), b1⟩
      · go_wp2_with fail
        go_ret
        exact ⟨ret_bool (by simp [itvHas, h, h1]), b1⟩
    · go_wp2_with fail
      go_ret
      exact ⟨ret_bool (by simp [itvHas, h]; omega), b1⟩

set_option maxHeartbeats 1000000 in
theorem itvInI (a b c d : Int) (w : World) :
    Calls Try.prog 49 #[.agg #[.int .i64 a, .int .i64 b], .agg #[.int .i64 c, .int .i64 d]] w fun e w' => e = .returned (.bool (itvIn a b c d)) ∧ Below w.heap.size w w' := by
  go_enter Try.func49, Try.ntmps49
  go_wp2_with fail
  refine (itvOkI _ _ _).mono ?_
  rintro e w1 ⟨rfl, hb⟩
  have b1 := (((Below.refl w.heap.size w).alloc (Nat.le_refl _) (.cells #[.int .i64 a, .int .i64 b] 25)).alloc (by simp) (.cells #[.int .i64 c, .int .i64 d] 25)).trans (hb.mono (by simp; omega))
  obtain ⟨hc, hf⟩ := bcell hb
  cases h : itvOk a b
  · go_wp2_with fail
    go_ret
    exact ⟨ret_bool (by simp [itvIn, h]), b1⟩
  go_wp2_with fail
  refine (itvOkI _ _ _).mono ?_
  rintro e w2 ⟨rfl, hb'⟩
  have b2 := b1.trans (hb'.mono b1.size)
  obtain ⟨hc2, hf2⟩ := bcell (below_tr hb hb')
  clear hc hf
  cases h' : itvOk c d
  · go_wp2_with fail
    go_ret
    exact ⟨ret_bool (by simp [itvIn, h']), b2⟩
  by_cases h1 : c ≤ a
  · by_cases h2 : b ≤ d
    · go_wp2_with fail
      go_ret
      exact ⟨ret_bool (by simp [itvIn, h, h', h1, h2]), b2⟩
    · go_wp2_with fail
      go_ret
      exact ⟨ret_bool (by simp [itvIn, h, h', h1]), b2⟩
  · go_wp2_with fail
    go_ret
    exact ⟨ret_bool (by simp [itvIn, h, h']; omega), b2⟩

set_option maxHeartbeats 1000000 in
theorem joinI (a b c d : Int) (w : World) :
    Calls Try.prog 73 #[.agg #[.int .i64 a, .int .i64 b], .agg #[.int .i64 c, .int .i64 d]] w fun e w' => e = .returned (.agg #[.int .i64 (joinLo a b c d), .int .i64 (joinHi a b c d)]) ∧ Below w.heap.size w w' := by
  go_enter Try.func73, Try.ntmps73
  go_wp2_with fail
  refine (itvOkI _ _ _).mono ?_
  rintro e w1 ⟨rfl, hb⟩
  have b1 := (show Below w.heap.size w (((w.alloc (.cells #[.int .i64 a, .int .i64 b] 25)).alloc (.cells #[.int .i64 c, .int .i64 d] 25)).alloc (.cells #[.int .i64 0, .int .i64 0] 25)) from by repeat (first | exact Below.refl _ _ | refine Below.alloc ?_ (by simp; try omega) _)).trans (hb.mono (by simp; omega))
  obtain ⟨hc, hf⟩ := bcell hb
  obtain ⟨e0, e1⟩ := own2 (W := w1) (B := w.heap.size + 1 + 1) (u := .int .i64 0) (v := .int .i64 0) (by rw [hc (w.heap.size + 1 + 1) 0 (by simp)]; simp [go_sem]) (by rw [hc (w.heap.size + 1 + 1) 1 (by simp)]; simp [go_sem])
  have hs := hb.size
  cases hab : itvOk a b
  · go_wp2_with fail
    refine bodyPost_ret (v := .agg #[.int .i64 (joinLo a b c d), .int .i64 (joinHi a b c d)]) (by simp [results, Try.results73, go_sem, e0, e1, joinLo, joinHi, two, hab]; try omega) rfl ⟨rfl, ?_⟩
    repeat (first | exact b2 | exact b1 | refine Below.drew ?_ | refine Below.alloc ?_ (by simp; try omega) _ | refine Below.setCell ?_ (by simp; try omega) _)
  go_wp2_with fail
  refine (itvOkI _ _ _).mono ?_
  rintro e w2 ⟨rfl, hb'⟩
  have b2 := b1.trans (hb'.mono b1.size)
  obtain ⟨hc2, hf2⟩ := bcell (below_tr hb hb')
  obtain ⟨e0, e1⟩ := own2 (W := w2) (B := w.heap.size + 1 + 1) (u := .int .i64 0) (v := .int .i64 0) (by rw [hc2 (w.heap.size + 1 + 1) 0 (by simp)]; simp [go_sem]) (by rw [hc2 (w.heap.size + 1 + 1) 1 (by simp)]; simp [go_sem])
  have hs2 := hb'.size
  clear hc hf
  cases hcd : itvOk c d
  · go_wp2_with fail
    refine bodyPost_ret (v := .agg #[.int .i64 (joinLo a b c d), .int .i64 (joinHi a b c d)]) (by simp [results, Try.results73, go_sem, e0, e1, joinLo, joinHi, two, hcd]; try omega) rfl ⟨rfl, ?_⟩
    repeat (first | exact b2 | exact b1 | refine Below.drew ?_ | refine Below.alloc ?_ (by simp; try omega) _ | refine Below.setCell ?_ (by simp; try omega) _)
  go_wp2_with fail
  all_goals (refine bodyPost_ret (v := .agg #[.int .i64 (joinLo a b c d), .int .i64 (joinHi a b c d)]) (by simp [results, Try.results73, go_sem, e0, e1, joinLo, joinHi, two, hab, hcd]; try omega) rfl ⟨rfl, ?_⟩)
  all_goals (repeat (first | exact b2 | exact b1 | refine Below.drew ?_ | refine Below.alloc ?_ (by simp; try omega) _ | refine Below.setCell ?_ (by simp; try omega) _))

theorem meet_ok {a b c d : Int} (h1 : itvOk a b = true) (h2 : itvOk c d = true) : itvOk (max a c) (min b d) = meetOk a b c d := by
  have k1 := itvOk_of h1
  have k2 := itvOk_of h2
  have a1 := ok_lo k1.1
  have a2 := ok_hi k1.1
  have a3 := ok_lo k1.2.1
  have a4 := ok_hi k1.2.1
  have a5 := ok_lo k2.1
  have a6 := ok_hi k2.1
  have a7 := ok_lo k2.2.1
  have a8 := ok_hi k2.2.1
  have e1 : okB (max a c) = true := by simp [okB]; omega
  have e2 : okB (min b d) = true := by simp [okB]; omega
  rw [meetOk, two, h1, h2, itvOk, e1, e2]
end Go.Proofs.Ytiehokibfdaleaa
