/-
  Contracts of the leaves: RelHolds (program and model) answers the same Bool, NumOk answers whether a number lies in -32768..32767, NumWrap answers the number mod 65536 in that range. No condition beyond that the argument fits an int.
-/
import Derived.Test.YtgcokddhghcmbaaRows
import Derived.WalkKit
import Derived.ProofKit
import Derived.OpenShut
namespace Go.Proofs.Ytgcokddhghcmbaa
open Go.ChangeShapes Go.WideShapes Go.ChangeAt Go.RowKit

def relB (rel a b : Int) : Bool :=
  if rel = 1 then decide (a < b) else if rel = 2 then decide (a ≤ b) else if rel = 3 then a == b else if rel = 4 then a != b else false

theorem ret_bool {a b : Bool} (h : a = b) : Ending.returned (.bool a) = .returned (.bool b) := by rw [h]
theorem ret_int {k : IntKind} {a b : Int} (h : a = b) : Ending.returned (.int k a) = .returned (.int k b) := by rw [h]

set_option maxHeartbeats 400000 in
theorem rel9 (rel a b : Int) (w : World) :
    Calls Try.prog 9 #[.int .i64 rel, .int .i64 a, .int .i64 b] w fun e w' => e = .returned (.bool (relB rel a b)) ∧ w' = w := by
  by_cases h1 : rel = 1
  · subst h1
    go_enter Try.func9, Try.ntmps9
    go_wp2
    all_goals go_ret
    all_goals exact ⟨ret_bool (by simp [relB]), rfl⟩
  by_cases h2 : rel = 2
  · subst h2
    go_enter Try.func9, Try.ntmps9
    go_wp2
    all_goals go_ret
    all_goals exact ⟨ret_bool (by simp [relB]), rfl⟩
  by_cases h3 : rel = 3
  · subst h3
    go_enter Try.func9, Try.ntmps9
    go_wp2
    all_goals go_ret
    all_goals exact ⟨ret_bool (by simp [relB]), rfl⟩
  by_cases h4 : rel = 4
  · subst h4
    go_enter Try.func9, Try.ntmps9
    go_wp2
    all_goals go_ret
    all_goals exact ⟨ret_bool (by simp [relB]), rfl⟩
  have g1 : (rel == 1) = false := by simpa using h1
  have g2 : (rel == 2) = false := by simpa using h2
  have g3 : (rel == 3) = false := by simpa using h3
  have g4 : (rel == 4) = false := by simpa using h4
  go_enter Try.func9, Try.ntmps9
  go_wp2
  all_goals go_ret
  all_goals exact ⟨ret_bool (by simp [relB, h1, h2, h3, h4]), rfl⟩

set_option maxHeartbeats 400000 in
theorem rel10 (rel a b : Int) (w : World) :
    Calls Try.prog 10 #[.int .i64 rel, .int .i64 a, .int .i64 b] w fun e w' => e = .returned (.bool (relB rel a b)) ∧ w' = w := by
  by_cases h1 : rel = 1
  · subst h1
    go_enter Try.func10, Try.ntmps10
    go_wp2
    all_goals go_ret
    all_goals exact ⟨ret_bool (by simp [relB]), rfl⟩
  by_cases h2 : rel = 2
  · subst h2
    go_enter Try.func10, Try.ntmps10
    go_wp2
    all_goals go_ret
    all_goals exact ⟨ret_bool (by simp [relB]), rfl⟩
  by_cases h3 : rel = 3
  · subst h3
    go_enter Try.func10, Try.ntmps10
    go_wp2
    all_goals go_ret
    all_goals exact ⟨ret_bool (by simp [relB]), rfl⟩
  by_cases h4 : rel = 4
  · subst h4
    go_enter Try.func10, Try.ntmps10
    go_wp2
    all_goals go_ret
    all_goals exact ⟨ret_bool (by simp [relB]), rfl⟩
  have g1 : (rel == 1) = false := by simpa using h1
  have g2 : (rel == 2) = false := by simpa using h2
  have g3 : (rel == 3) = false := by simpa using h3
  have g4 : (rel == 4) = false := by simpa using h4
  go_enter Try.func10, Try.ntmps10
  go_wp2
  all_goals go_ret
  all_goals exact ⟨ret_bool (by simp [relB, h1, h2, h3, h4]), rfl⟩

def okB (n : Int) : Bool := decide (-32768 ≤ n) && decide (n ≤ 32767)

theorem ok11 (n : Int) (w : World) :
    Calls Try.prog 11 #[.int .i64 n] w fun e w' => e = .returned (.bool (okB n)) ∧ w' = w := by
  by_cases h1 : (-32768 : Int) ≤ n
  · by_cases h2 : n ≤ 32767
    · go_enter Try.func11, Try.ntmps11
      go_wp2
      all_goals go_ret
      all_goals exact ⟨ret_bool (by simp [okB, h1, h2]), rfl⟩
    · go_enter Try.func11, Try.ntmps11
      go_wp2
      all_goals go_ret
      all_goals exact ⟨ret_bool (by simp [okB, h1, h2]), rfl⟩
  · go_enter Try.func11, Try.ntmps11
    go_wp2
    all_goals go_ret
    all_goals exact ⟨ret_bool (by simp [okB]; omega), rfl⟩

theorem ok12 (n : Int) (w : World) :
    Calls Try.prog 12 #[.int .i64 n] w fun e w' => e = .returned (.bool (okB n)) ∧ w' = w := by
  by_cases h1 : (-32768 : Int) ≤ n
  · by_cases h2 : n ≤ 32767
    · go_enter Try.func12, Try.ntmps12
      go_wp2
      all_goals go_ret
      all_goals exact ⟨ret_bool (by simp [okB, h1, h2]), rfl⟩
    · go_enter Try.func12, Try.ntmps12
      go_wp2
      all_goals go_ret
      all_goals exact ⟨ret_bool (by simp [okB, h1, h2]), rfl⟩
  · go_enter Try.func12, Try.ntmps12
    go_wp2
    all_goals go_ret
    all_goals exact ⟨ret_bool (by simp [okB]; omega), rfl⟩


def wr (n : Int) : Int := (n + 32768) % 65536 - 32768
theorem wr_wrap (n : Int) : IntKind.wrap .i16 n = wr n := by
  unfold wr IntKind.wrap
  simp [IntKind.bits, IntKind.signed]
  omega
theorem w64 (n : Int) (h1 : -9223372036854775808 ≤ n) (h2 : n ≤ 9223372036854775807) : wrap64 n = n := by
  unfold wrap64
  omega
theorem tm_pos (n : Int) (h : 0 ≤ n) : n.tmod 65536 = n % 65536 := Int.tmod_eq_emod_of_nonneg h
theorem tm_neg (n : Int) (h : n < 0) : n.tmod 65536 = -((-n) % 65536) := by
  have e : n.tmod 65536 = -((-n).tmod 65536) := by rw [Int.neg_tmod]; omega
  rw [e, Int.tmod_eq_emod_of_nonneg (by omega)]
theorem wrap14 (n : Int) (w : World) :
    Calls Try.prog 14 #[.int .i64 n] w fun e w' => e = .returned (.int .i64 (wr n)) ∧ w' = w := by
  go_enter Try.func14, Try.ntmps14
  go_wp2
  go_ret
  refine ⟨ret_int ?_, rfl⟩
  rw [wr_wrap]
  exact w64 _ (by unfold wr; omega) (by unfold wr; omega)

theorem wrap13 (n : Int)  (w : World) :
    Calls Try.prog 13 #[.int .i64 n] w fun e w' => e = .returned (.int .i64 (wr n)) ∧ w' = w := by
  have hl : n.tmod 65536 < 65536 := Int.tmod_lt_of_pos _ (by omega)
  have hg : -65536 < n.tmod 65536 := by
    by_cases h : 0 ≤ n
    · rw [tm_pos n h]; omega
    · rw [tm_neg n (by omega)]; omega
  go_enter Try.func13, Try.ntmps13
  go_wp2
  all_goals go_ret
  all_goals refine ⟨ret_int ?_, rfl⟩
  all_goals unfold wr
  all_goals (by_cases h : 0 ≤ n)
  all_goals first | rw [tm_pos n h] at * | rw [tm_neg n (by omega)] at *
  all_goals omega

end Go.Proofs.Ytgcokddhghcmbaa
