/-
  Contracts of the leaves: RelHolds (program and model) answers the same Bool, NumOk answers whether a number lies in -32768..32767, NumWrap answers the number mod 65536 in that range. No condition beyond that the argument fits an int.
-/
import Derived.Test.YtceanngbcolbaaaRows
import Derived.Test.YtceanngbcolbaaaPlain
import Derived.WalkKit
import Derived.ProofKit
import Derived.OpenShut
import Derived.Below
namespace Go.Proofs.Ytceanngbcolbaaa
open Go.ChangeShapes Go.WideShapes Go.ChangeAt Go.RowKit

theorem ret_bool {a b : Bool} (h : a = b) : Ending.returned (.bool a) = .returned (.bool b) := by rw [h]
theorem ret2 {k : IntKind} {a b : Int} {c d : Bool} (h : a = b) (h' : c = d) : Ending.returned (.tuple #[.int k a, .bool c]) = .returned (.tuple #[.int k b, .bool d]) := by rw [h, h']
theorem ret_str {a b : ByteArray} (h : a = b) : Ending.returned (.string a) = .returned (.string b) := by rw [h]
theorem below_dn {B : Nat} {a w : World} (h : Below B a w) (n : Nat) : Below B a (w.drewN n) := h.trans ⟨rfl, rfl, rfl, Nat.le_refl _, fun _ _ => rfl⟩
theorem ret_int {k : IntKind} {a b : Int} (h : a = b) : Ending.returned (.int k a) = .returned (.int k b) := by rw [h]

set_option maxHeartbeats 400000 in
theorem relI (rel a b : Int) (w : World) :
    Calls Try.prog 22 #[.int .i64 rel, .int .i64 a, .int .i64 b] w fun e w' => e = .returned (.bool (relB rel a b)) ∧ w' = w := by
  by_cases h1 : rel = 1
  · subst h1
    go_enter Try.func22, Try.ntmps22
    go_wp2
    all_goals go_ret
    all_goals exact ⟨ret_bool (by simp [relB]), rfl⟩
  by_cases h2 : rel = 2
  · subst h2
    go_enter Try.func22, Try.ntmps22
    go_wp2
    all_goals go_ret
    all_goals exact ⟨ret_bool (by simp [relB]), rfl⟩
  by_cases h3 : rel = 3
  · subst h3
    go_enter Try.func22, Try.ntmps22
    go_wp2
    all_goals go_ret
    all_goals exact ⟨ret_bool (by simp [relB]), rfl⟩
  by_cases h4 : rel = 4
  · subst h4
    go_enter Try.func22, Try.ntmps22
    go_wp2
    all_goals go_ret
    all_goals exact ⟨ret_bool (by simp [relB]), rfl⟩
  have g1 : (rel == 1) = false := by simpa using h1
  have g2 : (rel == 2) = false := by simpa using h2
  have g3 : (rel == 3) = false := by simpa using h3
  have g4 : (rel == 4) = false := by simpa using h4
  go_enter Try.func22, Try.ntmps22
  go_wp2
  all_goals go_ret
  all_goals exact ⟨ret_bool (by simp [relB, h1, h2, h3, h4]), rfl⟩

theorem okS (n : Int) (w : World) :
    Calls Try.prog 41 #[.int .i64 n] w fun e w' => e = .returned (.bool (okB n)) ∧ w' = w := by
  by_cases h1 : (-32768 : Int) ≤ n
  · by_cases h2 : n ≤ 32767
    · go_enter Try.func41, Try.ntmps41
      go_wp2
      all_goals go_ret
      all_goals exact ⟨ret_bool (by simp [okB, h1, h2]), rfl⟩
    · go_enter Try.func41, Try.ntmps41
      go_wp2
      all_goals go_ret
      all_goals exact ⟨ret_bool (by simp [okB, h1, h2]), rfl⟩
  · go_enter Try.func41, Try.ntmps41
    go_wp2
    all_goals go_ret
    all_goals exact ⟨ret_bool (by simp [okB]; omega), rfl⟩

theorem okI (n : Int) (w : World) :
    Calls Try.prog 42 #[.int .i64 n] w fun e w' => e = .returned (.bool (okB n)) ∧ w' = w := by
  by_cases h1 : (-32768 : Int) ≤ n
  · by_cases h2 : n ≤ 32767
    · go_enter Try.func42, Try.ntmps42
      go_wp2
      all_goals go_ret
      all_goals exact ⟨ret_bool (by simp [okB, h1, h2]), rfl⟩
    · go_enter Try.func42, Try.ntmps42
      go_wp2
      all_goals go_ret
      all_goals exact ⟨ret_bool (by simp [okB, h1, h2]), rfl⟩
  · go_enter Try.func42, Try.ntmps42
    go_wp2
    all_goals go_ret
    all_goals exact ⟨ret_bool (by simp [okB]; omega), rfl⟩


theorem wr_wrap (n : Int) : IntKind.wrap .i16 n = wr n := by
  unfold wr IntKind.wrap
  simp [IntKind.bits, IntKind.signed]
  omega
theorem w64 (n : Int) (h1 : -9223372036854775808 ≤ n) (h2 : n ≤ 9223372036854775807) : wrap64 n = n := by
  unfold wrap64
  omega
theorem wrapI (n : Int) (w : World) :
    Calls Try.prog 54 #[.int .i64 n] w fun e w' => e = .returned (.int .i64 (wr n)) ∧ w' = w := by
  go_enter Try.func54, Try.ntmps54
  go_wp2
  go_ret
  refine ⟨ret_int ?_, rfl⟩
  rw [wr_wrap]
  exact w64 _ (by unfold wr; omega) (by unfold wr; omega)

theorem wrapS (n : Int)  (w : World) :
    Calls Try.prog 59 #[.int .i64 n] w fun e w' => e = .returned (.int .i64 (wr n)) ∧ w' = w := by
  have hl : n.tmod 65536 < 65536 := Int.tmod_lt_of_pos _ (by omega)
  have hg : -65536 < n.tmod 65536 := by
    by_cases h : 0 ≤ n
    · rw [tm_pos n h]; omega
    · rw [tm_neg n (by omega)]; omega
  go_enter Try.func59, Try.ntmps59
  go_wp2
  all_goals go_ret
  all_goals refine ⟨ret_int ?_, rfl⟩
  all_goals unfold wr
  all_goals (by_cases h : 0 ≤ n)
  all_goals first | rw [tm_pos n h] at * | rw [tm_neg n (by omega)] at *
  all_goals omega

end Go.Proofs.Ytceanngbcolbaaa
