/- The model's InsOk, where a variable is none. -/
import Derived.Test.YtdpkbbbfnmneiaaInsS
import Derived.Deep.RegionWith
namespace Go.Proofs.Ytdpkbbbfnmneiaa
open Go.ChangeShapes Go.WideShapes Go.ChangeAt Go.RowKit

set_option maxRecDepth 10000 in
set_option maxHeartbeats 4000000 in
theorem insOkS_c (o d a b r l h t p s : Int) (w : World) (g0 : inB o 1 12 = true) (hQ : formB o d a b r l h t = true) (g1 : inB d 0 3 = false) :
    Calls Try.prog 100 #[.agg #[.int .i64 o, .int .i64 d, .int .i64 a, .int .i64 b, .int .i64 r, .int .i64 l, .int .i64 h, .int .i64 t], .int .i64 p, .int .i64 s] w fun e w' => e = .returned (.bool (insOk o d a b r l h t p s)) ∧ Below w.heap.size w w' := by
  have b0 : Below w.heap.size w ((w.alloc (.cells #[.int .i64 o, .int .i64 d, .int .i64 a, .int .i64 b, .int .i64 r, .int .i64 l, .int .i64 h, .int .i64 t] 72)).alloc (.cells #[.int .i64 0, .int .i64 0, .int .i64 0, .int .i64 0, .int .i64 0, .int .i64 0, .int .i64 0, .int .i64 0] 72)) := ((Below.refl _ _).alloc (Nat.le_refl _) _).alloc (by simp) _
  go_enter Try.func100, Try.ntmps100
  go_wp2_with fail
  first | go_region_with (first | (go_at_call 56; refine (inS _ _ _ _).mono ?_; rintro e w' ⟨rfl, rfl⟩; first | rw [g0] | rw [g1]) | (go_at_call 119; refine (formS _ _ _ _ _ _ _ _ (by assumption) _).mono ?_; rintro e w1 ⟨D, A, B, R, L', H, T, rfl, hq, hb⟩; rw [hQ] at hq; simp at hq; obtain ⟨hc, hf⟩ := bcell hb)) | fail
  all_goals go_wp2_with fail
  all_goals go_ret
  all_goals exact ⟨ret_bool (by simp [insOk, g1]), (by first | exact b0.drew | exact b0.drew.trans (hb.mono (by simp; try omega)) | exact (b0.drew.trans (hb.mono (by simp; try omega))).drew)⟩

set_option maxRecDepth 10000 in
set_option maxHeartbeats 4000000 in
theorem insOkS_d (o d a b r l h t p s : Int) (w : World) (g0 : inB o 1 12 = true) (hQ : formB o d a b r l h t = true) (g1 : inB d 0 3 = true) (g2 : inB a 0 3 = false) :
    Calls Try.prog 100 #[.agg #[.int .i64 o, .int .i64 d, .int .i64 a, .int .i64 b, .int .i64 r, .int .i64 l, .int .i64 h, .int .i64 t], .int .i64 p, .int .i64 s] w fun e w' => e = .returned (.bool (insOk o d a b r l h t p s)) ∧ Below w.heap.size w w' := by
  have b0 : Below w.heap.size w ((w.alloc (.cells #[.int .i64 o, .int .i64 d, .int .i64 a, .int .i64 b, .int .i64 r, .int .i64 l, .int .i64 h, .int .i64 t] 72)).alloc (.cells #[.int .i64 0, .int .i64 0, .int .i64 0, .int .i64 0, .int .i64 0, .int .i64 0, .int .i64 0, .int .i64 0] 72)) := ((Below.refl _ _).alloc (Nat.le_refl _) _).alloc (by simp) _
  go_enter Try.func100, Try.ntmps100
  go_wp2_with fail
  first | go_region_with (first | (go_at_call 56; refine (inS _ _ _ _).mono ?_; rintro e w' ⟨rfl, rfl⟩; first | rw [g0] | rw [g1] | rw [g2]) | (go_at_call 119; refine (formS _ _ _ _ _ _ _ _ (by assumption) _).mono ?_; rintro e w1 ⟨D, A, B, R, L', H, T, rfl, hq, hb⟩; rw [hQ] at hq; simp at hq; obtain ⟨hc, hf⟩ := bcell hb)) | fail
  all_goals go_wp2_with fail
  all_goals go_ret
  all_goals exact ⟨ret_bool (by simp [insOk, g2]), (by first | exact b0.drew | exact b0.drew.trans (hb.mono (by simp; try omega)) | exact (b0.drew.trans (hb.mono (by simp; try omega))).drew)⟩
end Go.Proofs.Ytdpkbbbfnmneiaa
