/- The model's InsOk, where it says no ahead of the kinds. -/
import Derived.Test.YtdpkbbbfnmneiaaInsS
import Derived.Deep.RegionWith
namespace Go.Proofs.Ytdpkbbbfnmneiaa
open Go.ChangeShapes Go.WideShapes Go.ChangeAt Go.RowKit

set_option maxRecDepth 10000 in
set_option maxHeartbeats 4000000 in
theorem insOkS_a (o d a b r l h t p s : Int) (w : World) (g0 : inB o 1 12 = false) :
    Calls Try.prog 100 #[.agg #[.int .i64 o, .int .i64 d, .int .i64 a, .int .i64 b, .int .i64 r, .int .i64 l, .int .i64 h, .int .i64 t], .int .i64 p, .int .i64 s] w fun e w' => e = .returned (.bool (insOk o d a b r l h t p s)) ∧ Below w.heap.size w w' := by
  have b0 : Below w.heap.size w ((w.alloc (.cells #[.int .i64 o, .int .i64 d, .int .i64 a, .int .i64 b, .int .i64 r, .int .i64 l, .int .i64 h, .int .i64 t] 72)).alloc (.cells #[.int .i64 0, .int .i64 0, .int .i64 0, .int .i64 0, .int .i64 0, .int .i64 0, .int .i64 0, .int .i64 0] 72)) := ((Below.refl _ _).alloc (Nat.le_refl _) _).alloc (by simp) _
  go_enter Try.func100, Try.ntmps100
  go_wp2_with fail
  first | go_region_with (first | (go_at_call 56; refine (inS _ _ _ _).mono ?_; rintro e w' ⟨rfl, rfl⟩; first | rw [g0]) ) | fail
  all_goals go_wp2_with fail
  all_goals go_ret
  all_goals exact ⟨ret_bool (by simp [insOk, form_out g0]), b0.drew⟩

set_option maxRecDepth 10000 in
set_option maxHeartbeats 4000000 in
theorem insOkS_b (o d a b r l h t p s : Int) (w : World) (g0 : inB o 1 12 = true) (hQ : formB o d a b r l h t = false) :
    Calls Try.prog 100 #[.agg #[.int .i64 o, .int .i64 d, .int .i64 a, .int .i64 b, .int .i64 r, .int .i64 l, .int .i64 h, .int .i64 t], .int .i64 p, .int .i64 s] w fun e w' => e = .returned (.bool (insOk o d a b r l h t p s)) ∧ Below w.heap.size w w' := by
  have b0 : Below w.heap.size w ((w.alloc (.cells #[.int .i64 o, .int .i64 d, .int .i64 a, .int .i64 b, .int .i64 r, .int .i64 l, .int .i64 h, .int .i64 t] 72)).alloc (.cells #[.int .i64 0, .int .i64 0, .int .i64 0, .int .i64 0, .int .i64 0, .int .i64 0, .int .i64 0, .int .i64 0] 72)) := ((Below.refl _ _).alloc (Nat.le_refl _) _).alloc (by simp) _
  go_enter Try.func100, Try.ntmps100
  go_wp2_with fail
  first | go_region_with (first | (go_at_call 56; refine (inS _ _ _ _).mono ?_; rintro e w' ⟨rfl, rfl⟩; first | rw [g0]) | (go_at_call 119; refine (formS _ _ _ _ _ _ _ _ (by assumption) _).mono ?_; rintro e w1 ⟨D, A, B, R, L', H, T, rfl, hq, hb⟩; rw [hQ] at hq; simp at hq; obtain ⟨hc, hf⟩ := bcell hb)) | fail
  all_goals go_wp2_with fail
  all_goals go_ret
  all_goals exact ⟨ret_bool (by simp [insOk, hQ]), (by first | exact b0.drew | exact b0.drew.trans (hb.mono (by simp; try omega)) | exact (b0.drew.trans (hb.mono (by simp; try omega))).drew)⟩
end Go.Proofs.Ytdpkbbbfnmneiaa
