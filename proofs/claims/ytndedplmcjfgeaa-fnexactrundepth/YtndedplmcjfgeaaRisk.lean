/- Contracts of InsRisks (program I, model S): both answer whether the kind is 4, 6, 7, 10 or 11. No condition. -/
import Derived.Test.YtndedplmcjfgeaaNums
import Derived.WalkKit
import Derived.ProofKit
import Derived.OpenShut
import Derived.Below
namespace Go.Proofs.Ytndedplmcjfgeaa
open Go.ChangeShapes Go.WideShapes Go.ChangeAt Go.RowKit

def riskB (o : Int) : Bool := o == 4 || o == 6 || o == 7 || o == 10 || o == 11

set_option maxHeartbeats 1000000 in
theorem riskI (o : Int) (w : World) :
    Calls Try.prog 77 #[.int .i64 o] w fun e w' => e = .returned (.bool (riskB o)) ∧ w' = w := by
  go_enter Try.func77, Try.ntmps77
  go_wp2
  all_goals go_ret
  all_goals exact ⟨ret_bool (by simp_all [riskB]), rfl⟩

set_option maxHeartbeats 1000000 in
theorem riskS (o : Int) (w : World) :
    Calls Try.prog 47 #[.int .i64 o] w fun e w' => e = .returned (.bool (riskB o)) ∧ w' = w := by
  by_cases h4 : o = 4
  · subst h4
    go_enter Try.func47, Try.ntmps47
    go_wp2
    all_goals go_ret
    all_goals exact ⟨ret_bool (by simp [riskB]), rfl⟩
  by_cases h6 : o = 6
  · subst h6
    go_enter Try.func47, Try.ntmps47
    go_wp2
    all_goals go_ret
    all_goals exact ⟨ret_bool (by simp [riskB]), rfl⟩
  by_cases h7 : o = 7
  · subst h7
    go_enter Try.func47, Try.ntmps47
    go_wp2
    all_goals go_ret
    all_goals exact ⟨ret_bool (by simp [riskB]), rfl⟩
  by_cases h10 : o = 10
  · subst h10
    go_enter Try.func47, Try.ntmps47
    go_wp2
    all_goals go_ret
    all_goals exact ⟨ret_bool (by simp [riskB]), rfl⟩
  have g4 : (o == 4) = false := by simpa using h4
  have g6 : (o == 6) = false := by simpa using h6
  have g7 : (o == 7) = false := by simpa using h7
  have g10 : (o == 10) = false := by simpa using h10
  go_enter Try.func47, Try.ntmps47
  go_wp2
  all_goals go_ret
  all_goals exact ⟨ret_bool (by simp [riskB, h4, h6, h7, h10]), rfl⟩
end Go.Proofs.Ytndedplmcjfgeaa
