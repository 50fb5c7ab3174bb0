/- The model's InsOk, where the kind is asked. -/
import Derived.Test.YtdpkbbbfnmneiaaInsS
import Derived.Deep.RegionWith
namespace Go.Proofs.Ytdpkbbbfnmneiaa
open Go.ChangeShapes Go.WideShapes Go.ChangeAt Go.RowKit

set_option maxRecDepth 10000 in
set_option maxHeartbeats 4000000 in
theorem insOkS_e (o d a b r l h t p s : Int) (w : World) (g0 : inB o 1 12 = true) (hQ : formB o d a b r l h t = true) (g1 : inB d 0 3 = true) (g2 : inB a 0 3 = true) (g3 : inB b 0 3 = false) :
    Calls Try.prog 100 #[.agg #[.int .i64 o, .int .i64 d, .int .i64 a, .int .i64 b, .int .i64 r, .int .i64 l, .int .i64 h, .int .i64 t], .int .i64 p, .int .i64 s] w fun e w' => e = .returned (.bool (insOk o d a b r l h t p s)) ∧ Below w.heap.size w w' := by
  have b0 : Below w.heap.size w ((w.alloc (.cells #[.int .i64 o, .int .i64 d, .int .i64 a, .int .i64 b, .int .i64 r, .int .i64 l, .int .i64 h, .int .i64 t] 72)).alloc (.cells #[.int .i64 0, .int .i64 0, .int .i64 0, .int .i64 0, .int .i64 0, .int .i64 0, .int .i64 0, .int .i64 0] 72)) := ((Below.refl _ _).alloc (Nat.le_refl _) _).alloc (by simp) _
  go_enter Try.func100, Try.ntmps100
  go_wp2_with fail
  first | go_region_with (first | (go_at_call 56; refine (inS _ _ _ _).mono ?_; rintro e w' ⟨rfl, rfl⟩; first | rw [g0] | rw [g1] | rw [g2] | rw [g3]) | (go_at_call 119; refine (formS _ _ _ _ _ _ _ _ (by assumption) _).mono ?_; rintro e w1 ⟨D, A, B, R, L', H, T, rfl, hq, hb⟩; rw [hQ] at hq; simp at hq; obtain ⟨hc, hf⟩ := bcell hb)) | fail
  all_goals go_wp2_with fail
  all_goals go_ret
  all_goals exact ⟨ret_bool (by simp [insOk, g3]), (by first | exact b0.drew | exact b0.drew.trans (hb.mono (by simp; try omega)) | exact (b0.drew.trans (hb.mono (by simp; try omega))).drew)⟩

set_option maxRecDepth 10000 in
set_option maxHeartbeats 4000000 in
theorem insOkS_f (o d a b r l h t p s : Int) (w : World) (g0 : inB o 1 12 = true) (hQ : formB o d a b r l h t = true) (g1 : inB d 0 3 = true) (g2 : inB a 0 3 = true) (g3 : inB b 0 3 = true) :
    Calls Try.prog 100 #[.agg #[.int .i64 o, .int .i64 d, .int .i64 a, .int .i64 b, .int .i64 r, .int .i64 l, .int .i64 h, .int .i64 t], .int .i64 p, .int .i64 s] w fun e w' => e = .returned (.bool (insOk o d a b r l h t p s)) ∧ Below w.heap.size w w' := by
  have b0 : Below w.heap.size w ((w.alloc (.cells #[.int .i64 o, .int .i64 d, .int .i64 a, .int .i64 b, .int .i64 r, .int .i64 l, .int .i64 h, .int .i64 t] 72)).alloc (.cells #[.int .i64 0, .int .i64 0, .int .i64 0, .int .i64 0, .int .i64 0, .int .i64 0, .int .i64 0, .int .i64 0] 72)) := ((Below.refl _ _).alloc (Nat.le_refl _) _).alloc (by simp) _
  go_enter Try.func100, Try.ntmps100
  go_wp2_with fail
  first | go_region_with (first | (go_at_call 56; refine (inS _ _ _ _).mono ?_; rintro e w' ⟨rfl, rfl⟩; first | rw [g0] | rw [g1] | rw [g2] | rw [g3]) | (go_at_call 119; refine (formS _ _ _ _ _ _ _ _ (by assumption) _).mono ?_; rintro e w1 ⟨D, A, B, R, L', H, T, rfl, hq, hb⟩; rw [hQ] at hq; simp at hq; obtain ⟨hc, hf⟩ := bcell hb)) | fail
  all_goals
    have ho' : o = 1 ∨ o = 2 ∨ o = 3 ∨ o = 4 ∨ o = 5 ∨ o = 6 ∨ o = 7 ∨ o = 8 ∨ o = 9 ∨ o = 10 ∨ o = 11 ∨ o = 12 := by simp [inB] at g0; omega
    rcases ho' with rfl | rfl | rfl | rfl | rfl | rfl | rfl | rfl | rfl | rfl | rfl | rfl
    case inr.inr.inr.inr.inl =>
      cases hl : okB l <;> cases hh : okB h
      all_goals go_wp2_with (go_at_call 112; refine (okS _ _).mono ?_; rintro e w' ⟨rfl, rfl⟩)
      all_goals go_ret
      all_goals exact ⟨ret_bool (by simp [insOk, hasB, hQ, g1, g2, g3, hl, hh]), (by first | exact b0.drew | exact b0.drew.trans (hb.mono (by simp; try omega)) | exact (b0.drew.trans (hb.mono (by simp; try omega))).drew)⟩
    case inr.inr.inr.inr.inr.inr.inr.inl =>
      cases hr : inB r 1 4
      all_goals by_cases ht : 0 ≤ t
      all_goals go_wp2_with (go_at_call 56; refine (inS _ _ _ _).mono ?_; rintro e w' ⟨rfl, rfl⟩; rw [hr])
      all_goals go_ret
      all_goals exact ⟨ret_bool (by simp [insOk, hasB, hQ, g1, g2, g3, hr]; try omega), (by first | exact b0.drew | exact b0.drew.trans (hb.mono (by simp; try omega)) | exact (b0.drew.trans (hb.mono (by simp; try omega))).drew)⟩
    case inr.inr.inr.inr.inr.inr.inr.inr.inl =>
      by_cases ht : 0 ≤ t
      all_goals go_wp2_with fail
      all_goals go_ret
      all_goals exact ⟨ret_bool (by simp [insOk, hasB, hQ, g1, g2, g3]; try omega), (by first | exact b0.drew | exact b0.drew.trans (hb.mono (by simp; try omega)) | exact (b0.drew.trans (hb.mono (by simp; try omega))).drew)⟩
    case inr.inr.inr.inr.inr.inr.inr.inr.inr.inl =>
      by_cases ht : 0 ≤ t
      all_goals go_wp2_with fail
      all_goals go_ret
      all_goals exact ⟨ret_bool (by simp [insOk, hasB, hQ, g1, g2, g3]; try omega), (by first | exact b0.drew | exact b0.drew.trans (hb.mono (by simp; try omega)) | exact (b0.drew.trans (hb.mono (by simp; try omega))).drew)⟩
    case inr.inr.inr.inr.inr.inr.inr.inr.inr.inr.inl =>
      go_wp2_with (go_at_call 56; refine (inS _ _ _ _).mono ?_; rintro e w' ⟨rfl, rfl⟩)
      all_goals go_ret
      all_goals exact ⟨ret_bool (by simp [insOk, hasB, hQ, g1, g2, g3]), (by first | exact b0.drew | exact b0.drew.trans (hb.mono (by simp; try omega)) | exact (b0.drew.trans (hb.mono (by simp; try omega))).drew)⟩
    all_goals go_wp2_with fail
    all_goals go_ret
    all_goals exact ⟨ret_bool (by simp [insOk, hasB, hQ, g1, g2, g3]), (by first | exact b0.drew | exact b0.drew.trans (hb.mono (by simp; try omega)) | exact (b0.drew.trans (hb.mono (by simp; try omega))).drew)⟩
end Go.Proofs.Ytdpkbbbfnmneiaa
