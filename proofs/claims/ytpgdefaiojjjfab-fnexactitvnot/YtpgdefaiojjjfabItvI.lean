/- Contracts of chapter 2's functions: the program's (I). Each answers what the plain functions say, whatever the ends are; it makes memory of its own alone. -/
import Derived.Test.YtpgdefaiojjjfabItv
import Derived.WalkKit
import Derived.ProofKit
import Derived.OpenShut
import Derived.Below
namespace Go.Proofs.Ytpgdefaiojjjfab
open Go.ChangeShapes Go.WideShapes Go.ChangeAt Go.RowKit

theorem itvOkI (a b : Int) (w : World) :
    Calls Try.prog 26 #[.agg #[.int .i64 a, .int .i64 b]] w fun e w' => e = .returned (.bool (itvOk a b)) ∧ Below w.heap.size w w' := by
  have hbel := (Below.refl w.heap.size w).alloc (Nat.le_refl _) (.cells #[.int .i64 a, .int .i64 b] 23)
  rcases Bool.eq_false_or_eq_true (okB a) with ha | ha
  · rcases Bool.eq_false_or_eq_true (okB b) with hb | hb
    · go_enter Try.func26, Try.ntmps26
      go_wp2_with (go_at_call 35; refine (okI _ _).mono ?_; rintro e w' ⟨rfl, rfl⟩)
      all_goals go_ret
      all_goals exact ⟨ret_bool (by simp [itvOk, ha, hb]), hbel⟩
    · go_enter Try.func26, Try.ntmps26
      go_wp2_with (go_at_call 35; refine (okI _ _).mono ?_; rintro e w' ⟨rfl, rfl⟩)
      all_goals go_ret
      all_goals exact ⟨ret_bool (by simp [itvOk, hb]), hbel⟩
  · go_enter Try.func26, Try.ntmps26
    go_wp2_with (go_at_call 35; refine (okI _ _).mono ?_; rintro e w' ⟨rfl, rfl⟩)
    all_goals go_ret
    all_goals exact ⟨ret_bool (by simp [itvOk, ha]), hbel⟩

theorem itvAllI (w : World) :
    Calls Try.prog 22 #[] w fun e w' => e = .returned (.agg #[.int .i64 (-32768), .int .i64 32767]) ∧ Below w.heap.size w w' := by
  go_enter Try.func22, Try.ntmps22
  go_wp2
  refine bodyPost_ret (v := .agg #[.int .i64 (-32768), .int .i64 32767]) (by simp [results, Try.results22, go_sem]) rfl ⟨rfl, ?_⟩
  repeat (first | exact Below.refl _ _ | refine Below.drew ?_ | refine Below.alloc ?_ (by simp; try omega) _ | refine Below.setCell ?_ (by simp; try omega) _)

theorem meet_ok {a b c d : Int} (h1 : itvOk a b = true) (h2 : itvOk c d = true) : itvOk (max a c) (min b d) = meetOk a b c d := by
  have k1 := itvOk_of h1
  have k2 := itvOk_of h2
  have a1 := ok_lo k1.1
  have a2 := ok_hi k1.1
  have a3 := ok_lo k1.2.1
  have a4 := ok_hi k1.2.1
  have a5 := ok_lo k2.1
  have a6 := ok_hi k2.1
  have a7 := ok_lo k2.2.1
  have a8 := ok_hi k2.2.1
  have e1 : okB (max a c) = true := by simp [okB]; omega
  have e2 : okB (min b d) = true := by simp [okB]; omega
  rw [meetOk, two, h1, h2, itvOk, e1, e2]
theorem overlapI (a b c d : Int) (w : World) :
    Calls Try.prog 60 #[.agg #[.int .i64 a, .int .i64 b], .agg #[.int .i64 c, .int .i64 d]] w fun e w' => e = .returned (.agg #[.int .i64 (max a c), .int .i64 (min b d)]) ∧ Below w.heap.size w w' := by
  go_enter Try.func60, Try.ntmps60
  go_wp2_with fail
  all_goals (refine bodyPost_ret (v := .agg #[.int .i64 (max a c), .int .i64 (min b d)]) (by simp [results, Try.results60, go_sem]; try omega) rfl ⟨rfl, ?_⟩)
  all_goals (repeat (first | exact Below.refl _ _ | refine Below.drew ?_ | refine Below.alloc ?_ (by simp; try omega) _ | refine Below.setCell ?_ (by simp; try omega) _))

end Go.Proofs.Ytpgdefaiojjjfab
