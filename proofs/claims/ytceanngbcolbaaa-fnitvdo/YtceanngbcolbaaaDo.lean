/-
  Contracts of NumDo, the model's (15) and the program's (16): both answer doN and doOk, whatever the three ints are. No condition beyond that.
-/
import Derived.Test.YtceanngbcolbaaaNums
import Derived.WalkKit
import Derived.ProofKit
import Derived.OpenShut
namespace Go.Proofs.Ytceanngbcolbaaa
open Go.ChangeShapes Go.WideShapes Go.ChangeAt Go.RowKit

theorem wr_w64 (n : Int) : wr (wrap64 n) = wr n := by unfold wr wrap64; omega
theorem w64_wr (n : Int) : wrap64 (wr n) = wr n := w64 _ (by unfold wr; omega) (by unfold wr; omega)

theorem mPlus (a b : Int) (w : World) :
    Calls Try.prog 44 #[.int .i16 a, .int .i16 b] w fun e w' => e = .returned (.int .i16 (wr (a + b))) ∧ w' = w := by
  go_enter Try.func44, Try.ntmps44
  go_wp2
  go_ret
  exact ⟨ret_int (wr_wrap _), rfl⟩
theorem mMinus (a b : Int) (w : World) :
    Calls Try.prog 45 #[.int .i16 a, .int .i16 b] w fun e w' => e = .returned (.int .i16 (wr (a - b))) ∧ w' = w := by
  go_enter Try.func45, Try.ntmps45
  go_wp2
  go_ret
  exact ⟨ret_int (wr_wrap _), rfl⟩
theorem mTimes (a b : Int) (w : World) :
    Calls Try.prog 46 #[.int .i16 a, .int .i16 b] w fun e w' => e = .returned (.int .i16 (wr (a * b))) ∧ w' = w := by
  go_enter Try.func46, Try.ntmps46
  go_wp2
  go_ret
  exact ⟨ret_int (wr_wrap _), rfl⟩
theorem mOver (a b : Int) (w : World) (h : b ≠ 0) :
    Calls Try.prog 47 #[.int .i16 a, .int .i16 b] w fun e w' => e = .returned (.int .i16 (wr (a.tdiv b))) ∧ w' = w := by
  have h0 : (b == 0) = false := by simpa using h
  go_enter Try.func47, Try.ntmps47
  go_wp2
  go_ret
  exact ⟨ret_int (wr_wrap _), rfl⟩

set_option maxHeartbeats 400000 in
theorem doI_na (op a b : Int) (w : World) (h : okB a = false) :
    Calls Try.prog 14 #[.int .i64 op, .int .i64 a, .int .i64 b] w fun e w' => e = .returned (.tuple #[.int .i64 (doN op a b), .bool (doOk op a b)]) ∧ Below w.heap.size w w' := by
  have e1 : doOk op a b = false := by simp [doOk, h]
  have e2 : doN op a b = 0 := by simp [doN, e1]
  rw [e1, e2]
  clear e1 e2
  go_enter Try.func14, Try.ntmps14
  go_wp2_with (first | (go_at_call 42; refine (okI _ _).mono ?_; rintro e w' ⟨rfl, rfl⟩) | (go_at_call 44; refine (mPlus _ _ _).mono ?_; rintro e w' ⟨rfl, rfl⟩) | (go_at_call 45; refine (mMinus _ _ _).mono ?_; rintro e w' ⟨rfl, rfl⟩) | (go_at_call 46; refine (mTimes _ _ _).mono ?_; rintro e w' ⟨rfl, rfl⟩))
  all_goals go_ret2
  all_goals exact ⟨ret2 (rfl) rfl, by first | exact Below.refl _ _ | exact (Below.refl _ _).alloc (Nat.le_refl _) _⟩

set_option maxHeartbeats 400000 in
theorem doI_nb (op a b : Int) (w : World) (h : okB a = true) (h' : okB b = false) :
    Calls Try.prog 14 #[.int .i64 op, .int .i64 a, .int .i64 b] w fun e w' => e = .returned (.tuple #[.int .i64 (doN op a b), .bool (doOk op a b)]) ∧ Below w.heap.size w w' := by
  have e1 : doOk op a b = false := by simp [doOk, h']
  have e2 : doN op a b = 0 := by simp [doN, e1]
  rw [e1, e2]
  clear e1 e2
  go_enter Try.func14, Try.ntmps14
  go_wp2_with (first | (go_at_call 42; refine (okI _ _).mono ?_; rintro e w' ⟨rfl, rfl⟩) | (go_at_call 44; refine (mPlus _ _ _).mono ?_; rintro e w' ⟨rfl, rfl⟩) | (go_at_call 45; refine (mMinus _ _ _).mono ?_; rintro e w' ⟨rfl, rfl⟩) | (go_at_call 46; refine (mTimes _ _ _).mono ?_; rintro e w' ⟨rfl, rfl⟩))
  all_goals go_ret2
  all_goals exact ⟨ret2 (rfl) rfl, by first | exact Below.refl _ _ | exact (Below.refl _ _).alloc (Nat.le_refl _) _⟩

set_option maxHeartbeats 400000 in
theorem doI_1 (a b : Int) (w : World) (h : okB a = true) (h' : okB b = true) :
    Calls Try.prog 14 #[.int .i64 1, .int .i64 a, .int .i64 b] w fun e w' => e = .returned (.tuple #[.int .i64 (doN 1 a b), .bool (doOk 1 a b)]) ∧ Below w.heap.size w w' := by
  have e1 : doOk 1 a b = true := by simp [doOk, h, h']
  have e2 : doN 1 a b = wr (a + b) := by simp [doN, e1]
  rw [e1, e2]
  clear e1 e2
  have hmf : ∀ (fn : Fn) (first cap : Array Value) (w : World), (Instr.makeFunc fn first cap).run Try.prog w = .ok (.func fn first cap) w := fun _ _ _ _ => rfl
  have ha1 := ok_lo h
  have ha2 := ok_hi h
  have hb1 := ok_lo h'
  have hb2 := ok_hi h'
  go_enter Try.func14, Try.ntmps14
  go_wp2_with (first | (go_at_call 42; refine (okI _ _).mono ?_; rintro e w' ⟨rfl, rfl⟩) | (go_at_call 44; refine (mPlus _ _ _).mono ?_; rintro e w' ⟨rfl, rfl⟩) | (go_at_call 45; refine (mMinus _ _ _).mono ?_; rintro e w' ⟨rfl, rfl⟩) | (go_at_call 46; refine (mTimes _ _ _).mono ?_; rintro e w' ⟨rfl, rfl⟩))
  all_goals go_ret2
  all_goals exact ⟨ret2 (w64_wr _) rfl, by first | exact Below.refl _ _ | exact (Below.refl _ _).alloc (Nat.le_refl _) _⟩

set_option maxHeartbeats 400000 in
theorem doI_2 (a b : Int) (w : World) (h : okB a = true) (h' : okB b = true) :
    Calls Try.prog 14 #[.int .i64 2, .int .i64 a, .int .i64 b] w fun e w' => e = .returned (.tuple #[.int .i64 (doN 2 a b), .bool (doOk 2 a b)]) ∧ Below w.heap.size w w' := by
  have e1 : doOk 2 a b = true := by simp [doOk, h, h']
  have e2 : doN 2 a b = wr (a - b) := by simp [doN, e1]
  rw [e1, e2]
  clear e1 e2
  have hmf : ∀ (fn : Fn) (first cap : Array Value) (w : World), (Instr.makeFunc fn first cap).run Try.prog w = .ok (.func fn first cap) w := fun _ _ _ _ => rfl
  have ha1 := ok_lo h
  have ha2 := ok_hi h
  have hb1 := ok_lo h'
  have hb2 := ok_hi h'
  go_enter Try.func14, Try.ntmps14
  go_wp2_with (first | (go_at_call 42; refine (okI _ _).mono ?_; rintro e w' ⟨rfl, rfl⟩) | (go_at_call 44; refine (mPlus _ _ _).mono ?_; rintro e w' ⟨rfl, rfl⟩) | (go_at_call 45; refine (mMinus _ _ _).mono ?_; rintro e w' ⟨rfl, rfl⟩) | (go_at_call 46; refine (mTimes _ _ _).mono ?_; rintro e w' ⟨rfl, rfl⟩))
  all_goals go_ret2
  all_goals exact ⟨ret2 (w64_wr _) rfl, by first | exact Below.refl _ _ | exact (Below.refl _ _).alloc (Nat.le_refl _) _⟩

set_option maxHeartbeats 400000 in
theorem doI_3 (a b : Int) (w : World) (h : okB a = true) (h' : okB b = true) :
    Calls Try.prog 14 #[.int .i64 3, .int .i64 a, .int .i64 b] w fun e w' => e = .returned (.tuple #[.int .i64 (doN 3 a b), .bool (doOk 3 a b)]) ∧ Below w.heap.size w w' := by
  have e1 : doOk 3 a b = true := by simp [doOk, h, h']
  have e2 : doN 3 a b = wr (a * b) := by simp [doN, e1]
  rw [e1, e2]
  clear e1 e2
  have hmf : ∀ (fn : Fn) (first cap : Array Value) (w : World), (Instr.makeFunc fn first cap).run Try.prog w = .ok (.func fn first cap) w := fun _ _ _ _ => rfl
  have ha1 := ok_lo h
  have ha2 := ok_hi h
  have hb1 := ok_lo h'
  have hb2 := ok_hi h'
  obtain ⟨hm1, hm2⟩ := mul_bd a b ha1 ha2 hb1 hb2
  go_enter Try.func14, Try.ntmps14
  go_wp2_with (first | (go_at_call 42; refine (okI _ _).mono ?_; rintro e w' ⟨rfl, rfl⟩) | (go_at_call 44; refine (mPlus _ _ _).mono ?_; rintro e w' ⟨rfl, rfl⟩) | (go_at_call 45; refine (mMinus _ _ _).mono ?_; rintro e w' ⟨rfl, rfl⟩) | (go_at_call 46; refine (mTimes _ _ _).mono ?_; rintro e w' ⟨rfl, rfl⟩))
  all_goals go_ret2
  all_goals exact ⟨ret2 (w64_wr _) rfl, by first | exact Below.refl _ _ | exact (Below.refl _ _).alloc (Nat.le_refl _) _⟩

set_option maxHeartbeats 400000 in
theorem doI_4 (a b : Int) (w : World) (h : okB a = true) (h' : okB b = true) (h0 : b ≠ 0) :
    Calls Try.prog 14 #[.int .i64 4, .int .i64 a, .int .i64 b] w fun e w' => e = .returned (.tuple #[.int .i64 (doN 4 a b), .bool (doOk 4 a b)]) ∧ Below w.heap.size w w' := by
  have e1 : doOk 4 a b = true := by simp [doOk, h, h', h0]
  have e2 : doN 4 a b = wr (a.tdiv b) := by simp [doN, e1]
  rw [e1, e2]
  clear e1 e2
  have hmf : ∀ (fn : Fn) (first cap : Array Value) (w : World), (Instr.makeFunc fn first cap).run Try.prog w = .ok (.func fn first cap) w := fun _ _ _ _ => rfl
  have ha1 := ok_lo h
  have ha2 := ok_hi h
  have hb1 := ok_lo h'
  have hb2 := ok_hi h'
  have g0 : (b == 0) = false := by simpa using h0
  go_enter Try.func14, Try.ntmps14
  go_wp2_with (first | (go_at_call 42; refine (okI _ _).mono ?_; rintro e w' ⟨rfl, rfl⟩) | (go_at_call 44; refine (mPlus _ _ _).mono ?_; rintro e w' ⟨rfl, rfl⟩) | (go_at_call 45; refine (mMinus _ _ _).mono ?_; rintro e w' ⟨rfl, rfl⟩) | (go_at_call 46; refine (mTimes _ _ _).mono ?_; rintro e w' ⟨rfl, rfl⟩) | (go_at_call 47; refine (mOver _ _ _ h0).mono ?_; rintro e w' ⟨rfl, rfl⟩))
  all_goals go_ret2
  all_goals exact ⟨ret2 (w64_wr _) rfl, by first | exact Below.refl _ _ | exact (Below.refl _ _).alloc (Nat.le_refl _) _⟩

set_option maxHeartbeats 400000 in
theorem doI_z (a : Int) (w : World) (h : okB a = true) :
    Calls Try.prog 14 #[.int .i64 4, .int .i64 a, .int .i64 0] w fun e w' => e = .returned (.tuple #[.int .i64 (doN 4 a 0), .bool (doOk 4 a 0)]) ∧ Below w.heap.size w w' := by
  have e1 : doOk 4 a 0 = false := by simp [doOk]
  have e2 : doN 4 a 0 = 0 := by simp [doN, e1]
  rw [e1, e2]
  clear e1 e2
  have h' : okB 0 = true := rfl
  go_enter Try.func14, Try.ntmps14
  go_wp2_with (first | (go_at_call 42; refine (okI _ _).mono ?_; rintro e w' ⟨rfl, rfl⟩) | (go_at_call 44; refine (mPlus _ _ _).mono ?_; rintro e w' ⟨rfl, rfl⟩) | (go_at_call 45; refine (mMinus _ _ _).mono ?_; rintro e w' ⟨rfl, rfl⟩) | (go_at_call 46; refine (mTimes _ _ _).mono ?_; rintro e w' ⟨rfl, rfl⟩))
  all_goals go_ret2
  all_goals exact ⟨ret2 (rfl) rfl, by first | exact Below.refl _ _ | exact (Below.refl _ _).alloc (Nat.le_refl _) _⟩

set_option maxHeartbeats 400000 in
theorem doI_lo (op a b : Int) (w : World) (h : okB a = true) (h' : okB b = true) (h1 : op < 1) :
    Calls Try.prog 14 #[.int .i64 op, .int .i64 a, .int .i64 b] w fun e w' => e = .returned (.tuple #[.int .i64 (doN op a b), .bool (doOk op a b)]) ∧ Below w.heap.size w w' := by
  have e1 : doOk op a b = false := by simp [doOk]; omega
  have e2 : doN op a b = 0 := by simp [doN, e1]
  rw [e1, e2]
  clear e1 e2
  go_enter Try.func14, Try.ntmps14
  go_wp2_with (first | (go_at_call 42; refine (okI _ _).mono ?_; rintro e w' ⟨rfl, rfl⟩) | (go_at_call 44; refine (mPlus _ _ _).mono ?_; rintro e w' ⟨rfl, rfl⟩) | (go_at_call 45; refine (mMinus _ _ _).mono ?_; rintro e w' ⟨rfl, rfl⟩) | (go_at_call 46; refine (mTimes _ _ _).mono ?_; rintro e w' ⟨rfl, rfl⟩))
  all_goals go_ret2
  all_goals exact ⟨ret2 (rfl) rfl, by first | exact Below.refl _ _ | exact (Below.refl _ _).alloc (Nat.le_refl _) _⟩

set_option maxHeartbeats 400000 in
theorem doI_hi (op a b : Int) (w : World) (h : okB a = true) (h' : okB b = true) (h1 : 4 < op) :
    Calls Try.prog 14 #[.int .i64 op, .int .i64 a, .int .i64 b] w fun e w' => e = .returned (.tuple #[.int .i64 (doN op a b), .bool (doOk op a b)]) ∧ Below w.heap.size w w' := by
  have e1 : doOk op a b = false := by simp [doOk]; omega
  have e2 : doN op a b = 0 := by simp [doN, e1]
  rw [e1, e2]
  clear e1 e2
  go_enter Try.func14, Try.ntmps14
  go_wp2_with (first | (go_at_call 42; refine (okI _ _).mono ?_; rintro e w' ⟨rfl, rfl⟩) | (go_at_call 44; refine (mPlus _ _ _).mono ?_; rintro e w' ⟨rfl, rfl⟩) | (go_at_call 45; refine (mMinus _ _ _).mono ?_; rintro e w' ⟨rfl, rfl⟩) | (go_at_call 46; refine (mTimes _ _ _).mono ?_; rintro e w' ⟨rfl, rfl⟩))
  all_goals go_ret2
  all_goals exact ⟨ret2 (rfl) rfl, by first | exact Below.refl _ _ | exact (Below.refl _ _).alloc (Nat.le_refl _) _⟩

theorem doI (op a b : Int) (w : World) :
    Calls Try.prog 14 #[.int .i64 op, .int .i64 a, .int .i64 b] w fun e w' => e = .returned (.tuple #[.int .i64 (doN op a b), .bool (doOk op a b)]) ∧ Below w.heap.size w w' := by
  rcases Bool.eq_false_or_eq_true (okB a) with h | h
  case inr => exact doI_na op a b w h
  rcases Bool.eq_false_or_eq_true (okB b) with h' | h'
  case inr => exact doI_nb op a b w h h'
  by_cases h1 : op = 1
  · subst h1; exact doI_1 a b w h h'
  by_cases h2 : op = 2
  · subst h2; exact doI_2 a b w h h'
  by_cases h3 : op = 3
  · subst h3; exact doI_3 a b w h h'
  by_cases h4 : op = 4
  · subst h4
    by_cases h0 : b = 0
    · subst h0; exact doI_z a w h
    · exact doI_4 a b w h h' h0
  by_cases hlo : op < 1
  · exact doI_lo op a b w h h' hlo
  exact doI_hi op a b w h h' (by omega)

end Go.Proofs.Ytceanngbcolbaaa
