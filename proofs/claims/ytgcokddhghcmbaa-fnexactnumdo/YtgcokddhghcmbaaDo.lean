/-
  Contracts of NumDo, the model's (15) and the program's (16): both answer doN and doOk, whatever the three ints are. No condition beyond that.
-/
import Derived.Test.YtgcokddhghcmbaaNums
import Derived.WalkKit
import Derived.ProofKit
import Derived.OpenShut
namespace Go.Proofs.Ytgcokddhghcmbaa
open Go.ChangeShapes Go.WideShapes Go.ChangeAt Go.RowKit

def doOk (op a b : Int) : Bool := okB a && okB b && (decide (op = 1) || decide (op = 2) || decide (op = 3) || (decide (op = 4) && decide (b ≠ 0)))
def doN (op a b : Int) : Int :=
  if doOk op a b then (if op = 1 then wr (a + b) else if op = 2 then wr (a - b) else if op = 3 then wr (a * b) else wr (a.tdiv b)) else 0

theorem mul_bd (a b : Int) (h1 : -32768 ≤ a) (h2 : a ≤ 32767) (h3 : -32768 ≤ b) (h4 : b ≤ 32767) : -1073741824 ≤ a * b ∧ a * b ≤ 1073741824 := by
  have hn : (a * b).natAbs ≤ 32768 * 32768 := by rw [Int.natAbs_mul]; exact Nat.mul_le_mul (by omega) (by omega)
  omega
theorem wr_w64 (n : Int) : wr (wrap64 n) = wr n := by unfold wr wrap64; omega
theorem w64_wr (n : Int) : wrap64 (wr n) = wr n := w64 _ (by unfold wr; omega) (by unfold wr; omega)
theorem ret2 {k : IntKind} {a b : Int} {c d : Bool} (h : a = b) (h' : c = d) : Ending.returned (.tuple #[.int k a, .bool c]) = .returned (.tuple #[.int k b, .bool d]) := by rw [h, h']
theorem ok_lo {n : Int} (h : okB n = true) : -32768 ≤ n := by simp [okB] at h; omega
theorem ok_hi {n : Int} (h : okB n = true) : n ≤ 32767 := by simp [okB] at h; omega

theorem m20 (a b : Int) (w : World) :
    Calls Try.prog 20 #[.int .i16 a, .int .i16 b] w fun e w' => e = .returned (.int .i16 (wr (a + b))) ∧ w' = w := by
  go_enter Try.func20, Try.ntmps20
  go_wp2
  go_ret
  exact ⟨ret_int (wr_wrap _), rfl⟩
theorem m21 (a b : Int) (w : World) :
    Calls Try.prog 21 #[.int .i16 a, .int .i16 b] w fun e w' => e = .returned (.int .i16 (wr (a - b))) ∧ w' = w := by
  go_enter Try.func21, Try.ntmps21
  go_wp2
  go_ret
  exact ⟨ret_int (wr_wrap _), rfl⟩
theorem m22 (a b : Int) (w : World) :
    Calls Try.prog 22 #[.int .i16 a, .int .i16 b] w fun e w' => e = .returned (.int .i16 (wr (a * b))) ∧ w' = w := by
  go_enter Try.func22, Try.ntmps22
  go_wp2
  go_ret
  exact ⟨ret_int (wr_wrap _), rfl⟩
theorem m23 (a b : Int) (w : World) (h : b ≠ 0) :
    Calls Try.prog 23 #[.int .i16 a, .int .i16 b] w fun e w' => e = .returned (.int .i16 (wr (a.tdiv b))) ∧ w' = w := by
  have h0 : (b == 0) = false := by simpa using h
  go_enter Try.func23, Try.ntmps23
  go_wp2
  go_ret
  exact ⟨ret_int (wr_wrap _), rfl⟩

set_option maxHeartbeats 400000 in
theorem do15_na (op a b : Int) (w : World) (h : okB a = false) :
    Calls Try.prog 15 #[.int .i64 op, .int .i64 a, .int .i64 b] w fun e w' => e = .returned (.tuple #[.int .i64 (doN op a b), .bool (doOk op a b)]) ∧ w' = w := by
  have e1 : doOk op a b = false := by simp [doOk, h]
  have e2 : doN op a b = 0 := by simp [doN, e1]
  rw [e1, e2]
  clear e1 e2
  go_enter Try.func15, Try.ntmps15
  go_wp2_with (first | (go_at_call 11; refine (ok11 _ _).mono ?_; rintro e w' ⟨rfl, rfl⟩) | (go_at_call 13; refine (wrap13 _ _).mono ?_; rintro e w' ⟨rfl, rfl⟩))
  all_goals go_ret2
  all_goals exact ⟨ret2 (rfl) rfl, rfl⟩

set_option maxHeartbeats 400000 in
theorem do15_nb (op a b : Int) (w : World) (h : okB a = true) (h' : okB b = false) :
    Calls Try.prog 15 #[.int .i64 op, .int .i64 a, .int .i64 b] w fun e w' => e = .returned (.tuple #[.int .i64 (doN op a b), .bool (doOk op a b)]) ∧ w' = w := by
  have e1 : doOk op a b = false := by simp [doOk, h']
  have e2 : doN op a b = 0 := by simp [doN, e1]
  rw [e1, e2]
  clear e1 e2
  go_enter Try.func15, Try.ntmps15
  go_wp2_with (first | (go_at_call 11; refine (ok11 _ _).mono ?_; rintro e w' ⟨rfl, rfl⟩) | (go_at_call 13; refine (wrap13 _ _).mono ?_; rintro e w' ⟨rfl, rfl⟩))
  all_goals go_ret2
  all_goals exact ⟨ret2 (rfl) rfl, rfl⟩

set_option maxHeartbeats 400000 in
theorem do15_1 (a b : Int) (w : World) (h : okB a = true) (h' : okB b = true) :
    Calls Try.prog 15 #[.int .i64 1, .int .i64 a, .int .i64 b] w fun e w' => e = .returned (.tuple #[.int .i64 (doN 1 a b), .bool (doOk 1 a b)]) ∧ w' = w := by
  have e1 : doOk 1 a b = true := by simp [doOk, h, h']
  have e2 : doN 1 a b = wr (a + b) := by simp [doN, e1]
  rw [e1, e2]
  clear e1 e2
  have ha1 := ok_lo h
  have ha2 := ok_hi h
  have hb1 := ok_lo h'
  have hb2 := ok_hi h'
  go_enter Try.func15, Try.ntmps15
  go_wp2_with (first | (go_at_call 11; refine (ok11 _ _).mono ?_; rintro e w' ⟨rfl, rfl⟩) | (go_at_call 13; refine (wrap13 _ _).mono ?_; rintro e w' ⟨rfl, rfl⟩))
  all_goals go_ret2
  all_goals exact ⟨ret2 (rfl) rfl, rfl⟩

set_option maxHeartbeats 400000 in
theorem do15_2 (a b : Int) (w : World) (h : okB a = true) (h' : okB b = true) :
    Calls Try.prog 15 #[.int .i64 2, .int .i64 a, .int .i64 b] w fun e w' => e = .returned (.tuple #[.int .i64 (doN 2 a b), .bool (doOk 2 a b)]) ∧ w' = w := by
  have e1 : doOk 2 a b = true := by simp [doOk, h, h']
  have e2 : doN 2 a b = wr (a - b) := by simp [doN, e1]
  rw [e1, e2]
  clear e1 e2
  have ha1 := ok_lo h
  have ha2 := ok_hi h
  have hb1 := ok_lo h'
  have hb2 := ok_hi h'
  go_enter Try.func15, Try.ntmps15
  go_wp2_with (first | (go_at_call 11; refine (ok11 _ _).mono ?_; rintro e w' ⟨rfl, rfl⟩) | (go_at_call 13; refine (wrap13 _ _).mono ?_; rintro e w' ⟨rfl, rfl⟩))
  all_goals go_ret2
  all_goals exact ⟨ret2 (rfl) rfl, rfl⟩

set_option maxHeartbeats 400000 in
theorem do15_3 (a b : Int) (w : World) (h : okB a = true) (h' : okB b = true) :
    Calls Try.prog 15 #[.int .i64 3, .int .i64 a, .int .i64 b] w fun e w' => e = .returned (.tuple #[.int .i64 (doN 3 a b), .bool (doOk 3 a b)]) ∧ w' = w := by
  have e1 : doOk 3 a b = true := by simp [doOk, h, h']
  have e2 : doN 3 a b = wr (a * b) := by simp [doN, e1]
  rw [e1, e2]
  clear e1 e2
  have ha1 := ok_lo h
  have ha2 := ok_hi h
  have hb1 := ok_lo h'
  have hb2 := ok_hi h'
  obtain ⟨hm1, hm2⟩ := mul_bd a b ha1 ha2 hb1 hb2
  go_enter Try.func15, Try.ntmps15
  go_wp2_with (first | (go_at_call 11; refine (ok11 _ _).mono ?_; rintro e w' ⟨rfl, rfl⟩) | (go_at_call 13; refine (wrap13 _ _).mono ?_; rintro e w' ⟨rfl, rfl⟩))
  all_goals go_ret2
  all_goals exact ⟨ret2 (rfl) rfl, rfl⟩

set_option maxHeartbeats 400000 in
theorem do15_4 (a b : Int) (w : World) (h : okB a = true) (h' : okB b = true) (h0 : b ≠ 0) :
    Calls Try.prog 15 #[.int .i64 4, .int .i64 a, .int .i64 b] w fun e w' => e = .returned (.tuple #[.int .i64 (doN 4 a b), .bool (doOk 4 a b)]) ∧ w' = w := by
  have e1 : doOk 4 a b = true := by simp [doOk, h, h', h0]
  have e2 : doN 4 a b = wr (a.tdiv b) := by simp [doN, e1]
  rw [e1, e2]
  clear e1 e2
  have ha1 := ok_lo h
  have ha2 := ok_hi h
  have hb1 := ok_lo h'
  have hb2 := ok_hi h'
  have g0 : (b == 0) = false := by simpa using h0
  go_enter Try.func15, Try.ntmps15
  go_wp2_with (first | (go_at_call 11; refine (ok11 _ _).mono ?_; rintro e w' ⟨rfl, rfl⟩) | (go_at_call 13; refine (wrap13 _ _).mono ?_; rintro e w' ⟨rfl, rfl⟩))
  all_goals go_ret2
  all_goals exact ⟨ret2 (wr_w64 _) rfl, rfl⟩

set_option maxHeartbeats 400000 in
theorem do15_z (a : Int) (w : World) (h : okB a = true) :
    Calls Try.prog 15 #[.int .i64 4, .int .i64 a, .int .i64 0] w fun e w' => e = .returned (.tuple #[.int .i64 (doN 4 a 0), .bool (doOk 4 a 0)]) ∧ w' = w := by
  have e1 : doOk 4 a 0 = false := by simp [doOk]
  have e2 : doN 4 a 0 = 0 := by simp [doN, e1]
  rw [e1, e2]
  clear e1 e2
  have h' : okB 0 = true := rfl
  go_enter Try.func15, Try.ntmps15
  go_wp2_with (first | (go_at_call 11; refine (ok11 _ _).mono ?_; rintro e w' ⟨rfl, rfl⟩) | (go_at_call 13; refine (wrap13 _ _).mono ?_; rintro e w' ⟨rfl, rfl⟩))
  all_goals go_ret2
  all_goals exact ⟨ret2 (rfl) rfl, rfl⟩

set_option maxHeartbeats 400000 in
theorem do15_op (op a b : Int) (w : World) (h : okB a = true) (h' : okB b = true) (h1 : op ≠ 1) (h2 : op ≠ 2) (h3 : op ≠ 3) (h4 : op ≠ 4) :
    Calls Try.prog 15 #[.int .i64 op, .int .i64 a, .int .i64 b] w fun e w' => e = .returned (.tuple #[.int .i64 (doN op a b), .bool (doOk op a b)]) ∧ w' = w := by
  have e1 : doOk op a b = false := by simp [doOk, h1, h2, h3, h4]
  have e2 : doN op a b = 0 := by simp [doN, e1]
  rw [e1, e2]
  clear e1 e2
  have g1 : (op == 1) = false := by simpa using h1
  have g2 : (op == 2) = false := by simpa using h2
  have g3 : (op == 3) = false := by simpa using h3
  have g4 : (op == 4) = false := by simpa using h4
  go_enter Try.func15, Try.ntmps15
  go_wp2_with (first | (go_at_call 11; refine (ok11 _ _).mono ?_; rintro e w' ⟨rfl, rfl⟩) | (go_at_call 13; refine (wrap13 _ _).mono ?_; rintro e w' ⟨rfl, rfl⟩))
  all_goals go_ret2
  all_goals exact ⟨ret2 (rfl) rfl, rfl⟩

theorem do15 (op a b : Int) (w : World) :
    Calls Try.prog 15 #[.int .i64 op, .int .i64 a, .int .i64 b] w fun e w' => e = .returned (.tuple #[.int .i64 (doN op a b), .bool (doOk op a b)]) ∧ w' = w := by
  rcases Bool.eq_false_or_eq_true (okB a) with h | h
  case inr => exact do15_na op a b w h
  rcases Bool.eq_false_or_eq_true (okB b) with h' | h'
  case inr => exact do15_nb op a b w h h'
  by_cases h1 : op = 1
  · subst h1; exact do15_1 a b w h h'
  by_cases h2 : op = 2
  · subst h2; exact do15_2 a b w h h'
  by_cases h3 : op = 3
  · subst h3; exact do15_3 a b w h h'
  by_cases h4 : op = 4
  · subst h4
    by_cases h0 : b = 0
    · subst h0; exact do15_z a w h
    · exact do15_4 a b w h h' h0
  exact do15_op op a b w h h' h1 h2 h3 h4

set_option maxHeartbeats 400000 in
theorem do16_na (op a b : Int) (w : World) (h : okB a = false) :
    Calls Try.prog 16 #[.int .i64 op, .int .i64 a, .int .i64 b] w fun e w' => e = .returned (.tuple #[.int .i64 (doN op a b), .bool (doOk op a b)]) ∧ Grown w w' := by
  have e1 : doOk op a b = false := by simp [doOk, h]
  have e2 : doN op a b = 0 := by simp [doN, e1]
  rw [e1, e2]
  clear e1 e2
  go_enter Try.func16, Try.ntmps16
  go_wp2_with (first | (go_at_call 12; refine (ok12 _ _).mono ?_; rintro e w' ⟨rfl, rfl⟩) | (go_at_call 20; refine (m20 _ _ _).mono ?_; rintro e w' ⟨rfl, rfl⟩) | (go_at_call 21; refine (m21 _ _ _).mono ?_; rintro e w' ⟨rfl, rfl⟩) | (go_at_call 22; refine (m22 _ _ _).mono ?_; rintro e w' ⟨rfl, rfl⟩))
  all_goals go_ret2
  all_goals exact ⟨ret2 (rfl) rfl, by repeat (first | exact Grown.refl _ | apply Grown.drew | apply Grown.alloc)⟩

set_option maxHeartbeats 400000 in
theorem do16_nb (op a b : Int) (w : World) (h : okB a = true) (h' : okB b = false) :
    Calls Try.prog 16 #[.int .i64 op, .int .i64 a, .int .i64 b] w fun e w' => e = .returned (.tuple #[.int .i64 (doN op a b), .bool (doOk op a b)]) ∧ Grown w w' := by
  have e1 : doOk op a b = false := by simp [doOk, h']
  have e2 : doN op a b = 0 := by simp [doN, e1]
  rw [e1, e2]
  clear e1 e2
  go_enter Try.func16, Try.ntmps16
  go_wp2_with (first | (go_at_call 12; refine (ok12 _ _).mono ?_; rintro e w' ⟨rfl, rfl⟩) | (go_at_call 20; refine (m20 _ _ _).mono ?_; rintro e w' ⟨rfl, rfl⟩) | (go_at_call 21; refine (m21 _ _ _).mono ?_; rintro e w' ⟨rfl, rfl⟩) | (go_at_call 22; refine (m22 _ _ _).mono ?_; rintro e w' ⟨rfl, rfl⟩))
  all_goals go_ret2
  all_goals exact ⟨ret2 (rfl) rfl, by repeat (first | exact Grown.refl _ | apply Grown.drew | apply Grown.alloc)⟩

set_option maxHeartbeats 400000 in
theorem do16_1 (a b : Int) (w : World) (h : okB a = true) (h' : okB b = true) :
    Calls Try.prog 16 #[.int .i64 1, .int .i64 a, .int .i64 b] w fun e w' => e = .returned (.tuple #[.int .i64 (doN 1 a b), .bool (doOk 1 a b)]) ∧ Grown w w' := by
  have e1 : doOk 1 a b = true := by simp [doOk, h, h']
  have e2 : doN 1 a b = wr (a + b) := by simp [doN, e1]
  rw [e1, e2]
  clear e1 e2
  have hmf : ∀ (fn : Fn) (first cap : Array Value) (w : World), (Instr.makeFunc fn first cap).run Try.prog w = .ok (.func fn first cap) w := fun _ _ _ _ => rfl
  have ha1 := ok_lo h
  have ha2 := ok_hi h
  have hb1 := ok_lo h'
  have hb2 := ok_hi h'
  go_enter Try.func16, Try.ntmps16
  go_wp2_with (first | (go_at_call 12; refine (ok12 _ _).mono ?_; rintro e w' ⟨rfl, rfl⟩) | (go_at_call 20; refine (m20 _ _ _).mono ?_; rintro e w' ⟨rfl, rfl⟩) | (go_at_call 21; refine (m21 _ _ _).mono ?_; rintro e w' ⟨rfl, rfl⟩) | (go_at_call 22; refine (m22 _ _ _).mono ?_; rintro e w' ⟨rfl, rfl⟩))
  all_goals go_ret2
  all_goals exact ⟨ret2 (w64_wr _) rfl, by repeat (first | exact Grown.refl _ | apply Grown.drew | apply Grown.alloc)⟩

set_option maxHeartbeats 400000 in
theorem do16_2 (a b : Int) (w : World) (h : okB a = true) (h' : okB b = true) :
    Calls Try.prog 16 #[.int .i64 2, .int .i64 a, .int .i64 b] w fun e w' => e = .returned (.tuple #[.int .i64 (doN 2 a b), .bool (doOk 2 a b)]) ∧ Grown w w' := by
  have e1 : doOk 2 a b = true := by simp [doOk, h, h']
  have e2 : doN 2 a b = wr (a - b) := by simp [doN, e1]
  rw [e1, e2]
  clear e1 e2
  have hmf : ∀ (fn : Fn) (first cap : Array Value) (w : World), (Instr.makeFunc fn first cap).run Try.prog w = .ok (.func fn first cap) w := fun _ _ _ _ => rfl
  have ha1 := ok_lo h
  have ha2 := ok_hi h
  have hb1 := ok_lo h'
  have hb2 := ok_hi h'
  go_enter Try.func16, Try.ntmps16
  go_wp2_with (first | (go_at_call 12; refine (ok12 _ _).mono ?_; rintro e w' ⟨rfl, rfl⟩) | (go_at_call 20; refine (m20 _ _ _).mono ?_; rintro e w' ⟨rfl, rfl⟩) | (go_at_call 21; refine (m21 _ _ _).mono ?_; rintro e w' ⟨rfl, rfl⟩) | (go_at_call 22; refine (m22 _ _ _).mono ?_; rintro e w' ⟨rfl, rfl⟩))
  all_goals go_ret2
  all_goals exact ⟨ret2 (w64_wr _) rfl, by repeat (first | exact Grown.refl _ | apply Grown.drew | apply Grown.alloc)⟩

set_option maxHeartbeats 400000 in
theorem do16_3 (a b : Int) (w : World) (h : okB a = true) (h' : okB b = true) :
    Calls Try.prog 16 #[.int .i64 3, .int .i64 a, .int .i64 b] w fun e w' => e = .returned (.tuple #[.int .i64 (doN 3 a b), .bool (doOk 3 a b)]) ∧ Grown w w' := by
  have e1 : doOk 3 a b = true := by simp [doOk, h, h']
  have e2 : doN 3 a b = wr (a * b) := by simp [doN, e1]
  rw [e1, e2]
  clear e1 e2
  have hmf : ∀ (fn : Fn) (first cap : Array Value) (w : World), (Instr.makeFunc fn first cap).run Try.prog w = .ok (.func fn first cap) w := fun _ _ _ _ => rfl
  have ha1 := ok_lo h
  have ha2 := ok_hi h
  have hb1 := ok_lo h'
  have hb2 := ok_hi h'
  obtain ⟨hm1, hm2⟩ := mul_bd a b ha1 ha2 hb1 hb2
  go_enter Try.func16, Try.ntmps16
  go_wp2_with (first | (go_at_call 12; refine (ok12 _ _).mono ?_; rintro e w' ⟨rfl, rfl⟩) | (go_at_call 20; refine (m20 _ _ _).mono ?_; rintro e w' ⟨rfl, rfl⟩) | (go_at_call 21; refine (m21 _ _ _).mono ?_; rintro e w' ⟨rfl, rfl⟩) | (go_at_call 22; refine (m22 _ _ _).mono ?_; rintro e w' ⟨rfl, rfl⟩))
  all_goals go_ret2
  all_goals exact ⟨ret2 (w64_wr _) rfl, by repeat (first | exact Grown.refl _ | apply Grown.drew | apply Grown.alloc)⟩

set_option maxHeartbeats 400000 in
theorem do16_4 (a b : Int) (w : World) (h : okB a = true) (h' : okB b = true) (h0 : b ≠ 0) :
    Calls Try.prog 16 #[.int .i64 4, .int .i64 a, .int .i64 b] w fun e w' => e = .returned (.tuple #[.int .i64 (doN 4 a b), .bool (doOk 4 a b)]) ∧ Grown w w' := by
  have e1 : doOk 4 a b = true := by simp [doOk, h, h', h0]
  have e2 : doN 4 a b = wr (a.tdiv b) := by simp [doN, e1]
  rw [e1, e2]
  clear e1 e2
  have hmf : ∀ (fn : Fn) (first cap : Array Value) (w : World), (Instr.makeFunc fn first cap).run Try.prog w = .ok (.func fn first cap) w := fun _ _ _ _ => rfl
  have ha1 := ok_lo h
  have ha2 := ok_hi h
  have hb1 := ok_lo h'
  have hb2 := ok_hi h'
  have g0 : (b == 0) = false := by simpa using h0
  go_enter Try.func16, Try.ntmps16
  go_wp2_with (first | (go_at_call 12; refine (ok12 _ _).mono ?_; rintro e w' ⟨rfl, rfl⟩) | (go_at_call 20; refine (m20 _ _ _).mono ?_; rintro e w' ⟨rfl, rfl⟩) | (go_at_call 21; refine (m21 _ _ _).mono ?_; rintro e w' ⟨rfl, rfl⟩) | (go_at_call 22; refine (m22 _ _ _).mono ?_; rintro e w' ⟨rfl, rfl⟩) | (go_at_call 23; refine (m23 _ _ _ h0).mono ?_; rintro e w' ⟨rfl, rfl⟩))
  all_goals go_ret2
  all_goals exact ⟨ret2 (w64_wr _) rfl, by repeat (first | exact Grown.refl _ | apply Grown.drew | apply Grown.alloc)⟩

set_option maxHeartbeats 400000 in
theorem do16_z (a : Int) (w : World) (h : okB a = true) :
    Calls Try.prog 16 #[.int .i64 4, .int .i64 a, .int .i64 0] w fun e w' => e = .returned (.tuple #[.int .i64 (doN 4 a 0), .bool (doOk 4 a 0)]) ∧ Grown w w' := by
  have e1 : doOk 4 a 0 = false := by simp [doOk]
  have e2 : doN 4 a 0 = 0 := by simp [doN, e1]
  rw [e1, e2]
  clear e1 e2
  have h' : okB 0 = true := rfl
  go_enter Try.func16, Try.ntmps16
  go_wp2_with (first | (go_at_call 12; refine (ok12 _ _).mono ?_; rintro e w' ⟨rfl, rfl⟩) | (go_at_call 20; refine (m20 _ _ _).mono ?_; rintro e w' ⟨rfl, rfl⟩) | (go_at_call 21; refine (m21 _ _ _).mono ?_; rintro e w' ⟨rfl, rfl⟩) | (go_at_call 22; refine (m22 _ _ _).mono ?_; rintro e w' ⟨rfl, rfl⟩))
  all_goals go_ret2
  all_goals exact ⟨ret2 (rfl) rfl, by repeat (first | exact Grown.refl _ | apply Grown.drew | apply Grown.alloc)⟩

set_option maxHeartbeats 400000 in
theorem do16_lo (op a b : Int) (w : World) (h : okB a = true) (h' : okB b = true) (h1 : op < 1) :
    Calls Try.prog 16 #[.int .i64 op, .int .i64 a, .int .i64 b] w fun e w' => e = .returned (.tuple #[.int .i64 (doN op a b), .bool (doOk op a b)]) ∧ Grown w w' := by
  have e1 : doOk op a b = false := by simp [doOk]; omega
  have e2 : doN op a b = 0 := by simp [doN, e1]
  rw [e1, e2]
  clear e1 e2
  go_enter Try.func16, Try.ntmps16
  go_wp2_with (first | (go_at_call 12; refine (ok12 _ _).mono ?_; rintro e w' ⟨rfl, rfl⟩) | (go_at_call 20; refine (m20 _ _ _).mono ?_; rintro e w' ⟨rfl, rfl⟩) | (go_at_call 21; refine (m21 _ _ _).mono ?_; rintro e w' ⟨rfl, rfl⟩) | (go_at_call 22; refine (m22 _ _ _).mono ?_; rintro e w' ⟨rfl, rfl⟩))
  all_goals go_ret2
  all_goals exact ⟨ret2 (rfl) rfl, by repeat (first | exact Grown.refl _ | apply Grown.drew | apply Grown.alloc)⟩

set_option maxHeartbeats 400000 in
theorem do16_hi (op a b : Int) (w : World) (h : okB a = true) (h' : okB b = true) (h1 : 4 < op) :
    Calls Try.prog 16 #[.int .i64 op, .int .i64 a, .int .i64 b] w fun e w' => e = .returned (.tuple #[.int .i64 (doN op a b), .bool (doOk op a b)]) ∧ Grown w w' := by
  have e1 : doOk op a b = false := by simp [doOk]; omega
  have e2 : doN op a b = 0 := by simp [doN, e1]
  rw [e1, e2]
  clear e1 e2
  go_enter Try.func16, Try.ntmps16
  go_wp2_with (first | (go_at_call 12; refine (ok12 _ _).mono ?_; rintro e w' ⟨rfl, rfl⟩) | (go_at_call 20; refine (m20 _ _ _).mono ?_; rintro e w' ⟨rfl, rfl⟩) | (go_at_call 21; refine (m21 _ _ _).mono ?_; rintro e w' ⟨rfl, rfl⟩) | (go_at_call 22; refine (m22 _ _ _).mono ?_; rintro e w' ⟨rfl, rfl⟩))
  all_goals go_ret2
  all_goals exact ⟨ret2 (rfl) rfl, by repeat (first | exact Grown.refl _ | apply Grown.drew | apply Grown.alloc)⟩

theorem do16 (op a b : Int) (w : World) :
    Calls Try.prog 16 #[.int .i64 op, .int .i64 a, .int .i64 b] w fun e w' => e = .returned (.tuple #[.int .i64 (doN op a b), .bool (doOk op a b)]) ∧ Grown w w' := by
  rcases Bool.eq_false_or_eq_true (okB a) with h | h
  case inr => exact do16_na op a b w h
  rcases Bool.eq_false_or_eq_true (okB b) with h' | h'
  case inr => exact do16_nb op a b w h h'
  by_cases h1 : op = 1
  · subst h1; exact do16_1 a b w h h'
  by_cases h2 : op = 2
  · subst h2; exact do16_2 a b w h h'
  by_cases h3 : op = 3
  · subst h3; exact do16_3 a b w h h'
  by_cases h4 : op = 4
  · subst h4
    by_cases h0 : b = 0
    · subst h0; exact do16_z a w h
    · exact do16_4 a b w h h' h0
  by_cases hlo : op < 1
  · exact do16_lo op a b w h h' hlo
  exact do16_hi op a b w h h' (by omega)

end Go.Proofs.Ytgcokddhghcmbaa
