/- The model's InsOk: it answers what the plain insOk says; it makes memory of its own alone. -/
import Derived.Test.YtdpkbbbfnmneiaaIns
import Derived.Test.YtdpkbbbfnmneiaaHeld8
import Derived.Deep.RegionWith
import Derived.Laws.StructEq
namespace Go.Proofs.Ytdpkbbbfnmneiaa
open Go.ChangeShapes Go.WideShapes Go.ChangeAt Go.RowKit

theorem equalIns (o d a b r l h t o' d' a' b' r' l' h' t' : Int) (w : World) : (Op.equalIn 10000 72 (.agg #[.int .i64 o, .int .i64 d, .int .i64 a, .int .i64 b, .int .i64 r, .int .i64 l, .int .i64 h, .int .i64 t]) (.agg #[.int .i64 o', .int .i64 d', .int .i64 a', .int .i64 b', .int .i64 r', .int .i64 l', .int .i64 h', .int .i64 t'])).run Try.prog w = .ok (o == o' && d == d' && a == a' && b == b' && r == r' && l == l' && h == h' && t == t') w := by
  have u3 := Try.underlying3
  have a3 := Try.isAgg3
  have z3 := Try.sizeOf3
  have hS : Try.prog.underlying 72 = some (.struct (Try.prog.fieldsOf 72)) := by kernel_rfl
  have hp : Try.prog.stoodInHeld 72 = false := by kernel_rfl
  rw [show (10000 : Nat) = 9999 + 1 from rfl, run_equalIn_agg w 9999 72 _ _ hS hp]
  simp only [Program.fieldsOf, Try.underlying72]
  go_simp
  (repeat' split) <;> simp_all

theorem eqlIns (o d a b r l h t o' d' a' b' r' l' h' t' : Int) (w : World) : (binOp .eql 72 (.agg #[.int .i64 o, .int .i64 d, .int .i64 a, .int .i64 b, .int .i64 r, .int .i64 l, .int .i64 h, .int .i64 t]) (.agg #[.int .i64 o', .int .i64 d', .int .i64 a', .int .i64 b', .int .i64 r', .int .i64 l', .int .i64 h', .int .i64 t'])).run Try.prog w = .ok (.bool (o == o' && d == d' && a == a' && b == b' && r == r' && l == l' && h == h' && t == t')) w := by
  rw [run_eql_struct, equalIns, Result.andThen_ok]
theorem neqIns (o d a b r l h t o' d' a' b' r' l' h' t' : Int) (w : World) : (binOp .neq 72 (.agg #[.int .i64 o, .int .i64 d, .int .i64 a, .int .i64 b, .int .i64 r, .int .i64 l, .int .i64 h, .int .i64 t]) (.agg #[.int .i64 o', .int .i64 d', .int .i64 a', .int .i64 b', .int .i64 r', .int .i64 l', .int .i64 h', .int .i64 t'])).run Try.prog w = .ok (.bool (!(o == o' && d == d' && a == a' && b == b' && r == r' && l == l' && h == h' && t == t'))) w := by
  rw [run_neq_struct, equalIns, Result.andThen_ok]

theorem formS (o d a b r l h t : Int) (ho : inB o 1 12 = true) (w : World) :
    Calls Try.prog 119 #[.agg #[.int .i64 o, .int .i64 d, .int .i64 a, .int .i64 b, .int .i64 r, .int .i64 l, .int .i64 h, .int .i64 t]] w fun e w' => ∃ D A B R L H T : Int, e = .returned (.agg #[.int .i64 0, .int .i64 D, .int .i64 A, .int .i64 B, .int .i64 R, .int .i64 L, .int .i64 H, .int .i64 T]) ∧ (∀ w : World, (binOp .neq 72 (.agg #[.int .i64 0, .int .i64 D, .int .i64 A, .int .i64 B, .int .i64 R, .int .i64 L, .int .i64 H, .int .i64 T]) (.agg #[.int .i64 0, .int .i64 0, .int .i64 0, .int .i64 0, .int .i64 0, .int .i64 0, .int .i64 0, .int .i64 0])).run Try.prog w = .ok (.bool (!(formB o d a b r l h t))) w) ∧ Below w.heap.size w w' := by
  have ho' : o = 1 ∨ o = 2 ∨ o = 3 ∨ o = 4 ∨ o = 5 ∨ o = 6 ∨ o = 7 ∨ o = 8 ∨ o = 9 ∨ o = 10 ∨ o = 11 ∨ o = 12 := by simp [inB] at ho; omega
  rcases ho' with rfl | rfl | rfl | rfl | rfl | rfl | rfl | rfl | rfl | rfl | rfl | rfl
  · refine (formS1 _ _ _ _ _ _ _ _).mono ?_
    rintro e w1 ⟨rfl, hb⟩
    exact ⟨_, _, _, _, _, _, _, rfl, fun w => (neqIns _ _ _ _ _ _ _ _ _ _ _ _ _ _ _ _ _).trans (by simp [formB, Bool.and_assoc]), hb⟩
  · refine (formS2 _ _ _ _ _ _ _ _).mono ?_
    rintro e w1 ⟨rfl, hb⟩
    exact ⟨_, _, _, _, _, _, _, rfl, fun w => (neqIns _ _ _ _ _ _ _ _ _ _ _ _ _ _ _ _ _).trans (by simp [formB, Bool.and_assoc]), hb⟩
  · refine (formS3 _ _ _ _ _ _ _ _).mono ?_
    rintro e w1 ⟨rfl, hb⟩
    exact ⟨_, _, _, _, _, _, _, rfl, fun w => (neqIns _ _ _ _ _ _ _ _ _ _ _ _ _ _ _ _ _).trans (by simp [formB, Bool.and_assoc]), hb⟩
  · refine (formS4 _ _ _ _ _ _ _ _).mono ?_
    rintro e w1 ⟨rfl, hb⟩
    exact ⟨_, _, _, _, _, _, _, rfl, fun w => (neqIns _ _ _ _ _ _ _ _ _ _ _ _ _ _ _ _ _).trans (by simp [formB, Bool.and_assoc]), hb⟩
  · refine (formS5 _ _ _ _ _ _ _ _).mono ?_
    rintro e w1 ⟨rfl, hb⟩
    exact ⟨_, _, _, _, _, _, _, rfl, fun w => (neqIns _ _ _ _ _ _ _ _ _ _ _ _ _ _ _ _ _).trans (by simp [formB, Bool.and_assoc]), hb⟩
  · refine (formS6 _ _ _ _ _ _ _ _).mono ?_
    rintro e w1 ⟨rfl, hb⟩
    exact ⟨_, _, _, _, _, _, _, rfl, fun w => (neqIns _ _ _ _ _ _ _ _ _ _ _ _ _ _ _ _ _).trans (by simp [formB, Bool.and_assoc]), hb⟩
  · refine (formS7 _ _ _ _ _ _ _ _).mono ?_
    rintro e w1 ⟨rfl, hb⟩
    exact ⟨_, _, _, _, _, _, _, rfl, fun w => (neqIns _ _ _ _ _ _ _ _ _ _ _ _ _ _ _ _ _).trans (by simp [formB, Bool.and_assoc]), hb⟩
  · refine (formS8 _ _ _ _ _ _ _ _).mono ?_
    rintro e w1 ⟨rfl, hb⟩
    exact ⟨_, _, _, _, _, _, _, rfl, fun w => (neqIns _ _ _ _ _ _ _ _ _ _ _ _ _ _ _ _ _).trans (by simp [formB, Bool.and_assoc]), hb⟩
  · refine (formS9 _ _ _ _ _ _ _ _).mono ?_
    rintro e w1 ⟨rfl, hb⟩
    exact ⟨_, _, _, _, _, _, _, rfl, fun w => (neqIns _ _ _ _ _ _ _ _ _ _ _ _ _ _ _ _ _).trans (by simp [formB, Bool.and_assoc]), hb⟩
  · refine (formS10 _ _ _ _ _ _ _ _).mono ?_
    rintro e w1 ⟨rfl, hb⟩
    exact ⟨_, _, _, _, _, _, _, rfl, fun w => (neqIns _ _ _ _ _ _ _ _ _ _ _ _ _ _ _ _ _).trans (by simp [formB, Bool.and_assoc]), hb⟩
  · refine (formS11 _ _ _ _ _ _ _ _).mono ?_
    rintro e w1 ⟨rfl, hb⟩
    exact ⟨_, _, _, _, _, _, _, rfl, fun w => (neqIns _ _ _ _ _ _ _ _ _ _ _ _ _ _ _ _ _).trans (by simp [formB, Bool.and_assoc]), hb⟩
  · refine (formS12 _ _ _ _ _ _ _ _).mono ?_
    rintro e w1 ⟨rfl, hb⟩
    exact ⟨_, _, _, _, _, _, _, rfl, fun w => (neqIns _ _ _ _ _ _ _ _ _ _ _ _ _ _ _ _ _).trans (by simp [formB, Bool.and_assoc]), hb⟩
end Go.Proofs.Ytdpkbbbfnmneiaa
