/- The program's InsOk answers what the plain insOk says, whatever it is asked; it makes memory of its own alone. -/
import Derived.Test.YtdpkbbbfnmneiaaInsI1
import Derived.Test.YtdpkbbbfnmneiaaInsI2
import Derived.Test.YtdpkbbbfnmneiaaInsI3
namespace Go.Proofs.Ytdpkbbbfnmneiaa
open Go.ChangeShapes Go.WideShapes Go.ChangeAt Go.RowKit
theorem fits_eq_1 (d a b r l h t p s : Int) : (formB 1 d a b r l h t && ((inB d 0 3 && inB a 0 3 && inB b 0 3))) = insOk 1 d a b r l h t p s := by
  cases hF : formB 1 d a b r l h t
  · simp [insOk, hF]
  · simp only [formB] at hF
    simp at hF
    simp [insOk, formB, hasB, inB, hF, Bool.and_assoc]
theorem fits_eq_2 (d a b r l h t p s : Int) : (formB 2 d a b r l h t && ((inB d 0 3 && inB a 0 3 && inB b 0 3))) = insOk 2 d a b r l h t p s := by
  cases hF : formB 2 d a b r l h t
  · simp [insOk, hF]
  · simp only [formB] at hF
    simp at hF
    simp [insOk, formB, hasB, inB, hF, Bool.and_assoc]
theorem fits_eq_3 (d a b r l h t p s : Int) : (formB 3 d a b r l h t && ((inB d 0 3 && inB a 0 3 && inB b 0 3))) = insOk 3 d a b r l h t p s := by
  cases hF : formB 3 d a b r l h t
  · simp [insOk, hF]
  · simp only [formB] at hF
    simp at hF
    simp [insOk, formB, hasB, inB, hF, Bool.and_assoc]
theorem fits_eq_4 (d a b r l h t p s : Int) : (formB 4 d a b r l h t && ((inB d 0 3 && inB a 0 3 && inB b 0 3))) = insOk 4 d a b r l h t p s := by
  cases hF : formB 4 d a b r l h t
  · simp [insOk, hF]
  · simp only [formB] at hF
    simp at hF
    simp [insOk, formB, hasB, inB, hF, Bool.and_assoc]
theorem fits_eq_5 (d a b r l h t p s : Int) : (formB 5 d a b r l h t && (inB d 0 3 && itvOk l h)) = insOk 5 d a b r l h t p s := by
  cases hF : formB 5 d a b r l h t
  · simp [insOk, hF]
  · simp only [formB] at hF
    simp at hF
    simp [insOk, formB, hasB, itvOk, inB, hF, Bool.and_assoc]
theorem fits_eq_6 (d a b r l h t p s : Int) : (formB 6 d a b r l h t && ((inB d 0 3 && inB a 0 3))) = insOk 6 d a b r l h t p s := by
  cases hF : formB 6 d a b r l h t
  · simp [insOk, hF]
  · simp only [formB] at hF
    simp at hF
    simp [insOk, formB, hasB, inB, hF, Bool.and_assoc]
theorem fits_eq_7 (d a b r l h t p s : Int) : (formB 7 d a b r l h t && ((inB a 0 3 && inB b 0 3))) = insOk 7 d a b r l h t p s := by
  cases hF : formB 7 d a b r l h t
  · simp [insOk, hF]
  · simp only [formB] at hF
    simp at hF
    simp [insOk, formB, hasB, inB, hF, Bool.and_assoc]
theorem fits_eq_8 (d a b r l h t p s : Int) : (formB 8 d a b r l h t && (inB r 1 4 && (inB a 0 3 && inB b 0 3) && placeB t s)) = insOk 8 d a b r l h t p s := by
  cases hF : formB 8 d a b r l h t
  · simp [insOk, hF]
  · simp only [formB] at hF
    simp at hF
    cases h1 : inB r 1 4 <;> simp [insOk, formB, hasB, placeB, hF, h1, show inB 0 0 3 = true from rfl]
theorem fits_eq_9 (d a b r l h t p s : Int) : (formB 9 d a b r l h t && (placeB t s)) = insOk 9 d a b r l h t p s := by
  cases hF : formB 9 d a b r l h t
  · simp [insOk, hF]
  · simp only [formB] at hF
    simp at hF
    simp [insOk, formB, hasB, placeB, inB, hF]
theorem fits_eq_10 (d a b r l h t p s : Int) : (formB 10 d a b r l h t && ((inB d 0 3 && inB a 0 3) && placeB t p)) = insOk 10 d a b r l h t p s := by
  cases hF : formB 10 d a b r l h t
  · simp [insOk, hF]
  · simp only [formB] at hF
    simp at hF
    simp [insOk, formB, hasB, placeB, inB, hF, Bool.and_assoc]
theorem fits_eq_11 (d a b r l h t p s : Int) : (formB 11 d a b r l h t && (inB r 1 4 && (inB a 0 3 && inB b 0 3))) = insOk 11 d a b r l h t p s := by
  cases hF : formB 11 d a b r l h t
  · simp [insOk, hF]
  · simp only [formB] at hF
    simp at hF
    cases h1 : inB r 1 4 <;> simp [insOk, formB, hasB, hF, h1, show inB 0 0 3 = true from rfl]
theorem fits_eq_12 (d a b r l h t p s : Int) : (formB 12 d a b r l h t && (inB a 0 3)) = insOk 12 d a b r l h t p s := by
  cases hF : formB 12 d a b r l h t
  · simp [insOk, hF]
  · simp only [formB] at hF
    simp at hF
    simp [insOk, formB, hasB, inB, hF]
theorem insOkI (o d a b r l h t p s : Int) (w : World) :
    Calls Try.prog 103 #[.agg #[.int .i64 o, .int .i64 d, .int .i64 a, .int .i64 b, .int .i64 r, .int .i64 l, .int .i64 h, .int .i64 t], .int .i64 p, .int .i64 s] w fun e w' => e = .returned (.bool (insOk o d a b r l h t p s)) ∧ Below w.heap.size w w' := by
  cases g0 : inB o 1 12
  · refine (insOkI_nil _ _ _ _ _ _ _ _ _ _ _ (stepOfI_0 _ _ _ _ _ _ _ _ g0)).mono ?_
    rintro e w1 ⟨rfl, hb⟩
    exact ⟨ret_bool (by simp [insOk, form_out g0]), hb⟩
  have ho' : o = 1 ∨ o = 2 ∨ o = 3 ∨ o = 4 ∨ o = 5 ∨ o = 6 ∨ o = 7 ∨ o = 8 ∨ o = 9 ∨ o = 10 ∨ o = 11 ∨ o = 12 := by simp [inB] at g0; omega
  rcases ho' with rfl | rfl | rfl | rfl | rfl | rfl | rfl | rfl | rfl | rfl | rfl | rfl
  · refine (insOkI_1 _ _ _ _ _ _ _ _ _ _).mono ?_
    rintro e w1 ⟨rfl, hb⟩
    exact ⟨ret_bool (fits_eq_1 _ _ _ _ _ _ _ _ _), hb⟩
  · refine (insOkI_2 _ _ _ _ _ _ _ _ _ _).mono ?_
    rintro e w1 ⟨rfl, hb⟩
    exact ⟨ret_bool (fits_eq_2 _ _ _ _ _ _ _ _ _), hb⟩
  · refine (insOkI_3 _ _ _ _ _ _ _ _ _ _).mono ?_
    rintro e w1 ⟨rfl, hb⟩
    exact ⟨ret_bool (fits_eq_3 _ _ _ _ _ _ _ _ _), hb⟩
  · refine (insOkI_4 _ _ _ _ _ _ _ _ _ _).mono ?_
    rintro e w1 ⟨rfl, hb⟩
    exact ⟨ret_bool (fits_eq_4 _ _ _ _ _ _ _ _ _), hb⟩
  · refine (insOkI_5 _ _ _ _ _ _ _ _ _ _).mono ?_
    rintro e w1 ⟨rfl, hb⟩
    exact ⟨ret_bool (fits_eq_5 _ _ _ _ _ _ _ _ _), hb⟩
  · refine (insOkI_6 _ _ _ _ _ _ _ _ _ _).mono ?_
    rintro e w1 ⟨rfl, hb⟩
    exact ⟨ret_bool (fits_eq_6 _ _ _ _ _ _ _ _ _), hb⟩
  · refine (insOkI_7 _ _ _ _ _ _ _ _ _ _).mono ?_
    rintro e w1 ⟨rfl, hb⟩
    exact ⟨ret_bool (fits_eq_7 _ _ _ _ _ _ _ _ _), hb⟩
  · refine (insOkI_8 _ _ _ _ _ _ _ _ _ _).mono ?_
    rintro e w1 ⟨rfl, hb⟩
    exact ⟨ret_bool (fits_eq_8 _ _ _ _ _ _ _ _ _), hb⟩
  · refine (insOkI_9 _ _ _ _ _ _ _ _ _ _).mono ?_
    rintro e w1 ⟨rfl, hb⟩
    exact ⟨ret_bool (fits_eq_9 _ _ _ _ _ _ _ _ _), hb⟩
  · refine (insOkI_10 _ _ _ _ _ _ _ _ _ _).mono ?_
    rintro e w1 ⟨rfl, hb⟩
    exact ⟨ret_bool (fits_eq_10 _ _ _ _ _ _ _ _ _), hb⟩
  · refine (insOkI_11 _ _ _ _ _ _ _ _ _ _).mono ?_
    rintro e w1 ⟨rfl, hb⟩
    exact ⟨ret_bool (fits_eq_11 _ _ _ _ _ _ _ _ _), hb⟩
  · refine (insOkI_12 _ _ _ _ _ _ _ _ _ _).mono ?_
    rintro e w1 ⟨rfl, hb⟩
    exact ⟨ret_bool (fits_eq_12 _ _ _ _ _ _ _ _ _), hb⟩
end Go.Proofs.Ytdpkbbbfnmneiaa
