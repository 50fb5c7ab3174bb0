/- Two arrivals taken bounds by bounds, by a function that is handed in; the join of two arrivals. -/
import Derived.Test.YtddcojeghdnhnaaDoorArrSt
namespace Go.Proofs.YtddcojeghdnhnaaDoor
open Go.ChangeShapes Go.WideShapes Go.ChangeAt Go.RowKit
set_option linter.unusedVariables false

abbrev arrL (on : Bool) (l h : Nat → Int) : List Value := [Value.bool on, .int .i64 (l 0), .int .i64 (h 0), .int .i64 (l 1), .int .i64 (h 1), .int .i64 (l 2), .int .i64 (h 2), .int .i64 (l 3), .int .i64 (h 3), .int .i64 (l 4), .int .i64 (h 4)]
theorem arr_lo (on : Bool) (l h : Nat → Int) {k : Nat} (hk : k < 5) : (arrL on l h)[1 + k * 2]? = some (.int .i64 (l k)) := cellAt_lo on l h hk
theorem arr_hi (on : Bool) (l h : Nat → Int) {k : Nat} (hk : k < 5) : (arrL on l h)[1 + k * 2 + 1]? = some (.int .i64 (h k)) := cellAt_hi on l h hk
def mixF (k : Nat) (f l : Nat → Int) : Nat → Int := fun j => if j < k then f j else l j
theorem mixF_k (k : Nat) (f l : Nat → Int) : mixF k f l k = l k := if_neg (Nat.lt_irrefl k)
theorem mix_put {k : Nat} {F G l h : Nat → Int} (hk : k < 5) : ((arrL true (mixF k F l) (mixF k G h)).set (1 + k * 2) (.int .i64 (F k))).set (1 + k * 2 + 1) (.int .i64 (G k)) = arrL true (mixF (k + 1) F l) (mixF (k + 1) G h) := by
  rcases (show k = 0 ∨ k = 1 ∨ k = 2 ∨ k = 3 ∨ k = 4 by omega) with rfl | rfl | rfl | rfl | rfl <;> simp [arrL, mixF]
/-- Operation b stands behind operation a. -/
def Imp (a b : Nat) (L : Nat → Bool) : Prop := L b = true → L a = true
theorem Imp.go {a b : Nat} {L : Nat → Bool} (h : Imp a b L) {i : Nat} (hi : i = b → L a = true) : Imp a b (upd L i true) := by
  intro e
  by_cases ea : a = i
  · subst ea; exact upd_same _ _ _
  · rw [upd_other _ _ ea]
    by_cases eb : b = i
    · exact hi eb.symm
    · rw [upd_other _ _ eb] at e; exact h e
theorem Imp.no {a b : Nat} {L : Nat → Bool} (h : Imp a b L) (ha : L a = false) : L b = false := by
  cases e : L b
  · rfl
  · rw [h e] at ha; cases ha
theorem Once.next {j : Nat} {w : World} {L0 L1 : List (Nat × List Value)} {L : Nat → Bool} {W W' : World} (h : Once j w L0 L1 L W) (hb : Below W.heap.size W W') : Once j w L0 L1 L W' := ⟨fun e => (h.1 e).next hb, fun e => (h.2 e).next hb⟩
def BesS (w : World) (L0 L1 : List (Nat × List Value)) (L : Nat → Bool) (W : World) : Prop := Imp 10 13 L ∧ Imp 5 10 L ∧ Once 13 w L0 L1 L W
set_option maxRecDepth 10000 in
set_option maxHeartbeats 8000000 in
theorem beside_f (on' : Bool) (l h l' h' : Nat → Int) (fv : Value) (w : World) :
    Calls Tryd.prog 19 #[.agg #[.bool false, .int .i64 (l 0), .int .i64 (h 0), .int .i64 (l 1), .int .i64 (h 1), .int .i64 (l 2), .int .i64 (h 2), .int .i64 (l 3), .int .i64 (h 3), .int .i64 (l 4), .int .i64 (h 4)], .agg #[.bool on', .int .i64 (l' 0), .int .i64 (h' 0), .int .i64 (l' 1), .int .i64 (h' 1), .int .i64 (l' 2), .int .i64 (h' 2), .int .i64 (l' 3), .int .i64 (h' 3), .int .i64 (l' 4), .int .i64 (h' 4)], fv] w fun e w' => e = .returned (.agg #[.bool on', .int .i64 (l' 0), .int .i64 (h' 0), .int .i64 (l' 1), .int .i64 (h' 1), .int .i64 (l' 2), .int .i64 (h' 2), .int .i64 (l' 3), .int .i64 (h' 3), .int .i64 (l' 4), .int .i64 (h' 4)]) ∧ Below w.heap.size w w' := by
  go_enter Tryd.func19, Tryd.ntmps19
  go_wp2_with fail
  refine bodyPost_ret (v := .agg #[.bool on', .int .i64 (l' 0), .int .i64 (h' 0), .int .i64 (l' 1), .int .i64 (h' 1), .int .i64 (l' 2), .int .i64 (h' 2), .int .i64 (l' 3), .int .i64 (h' 3), .int .i64 (l' 4), .int .i64 (h' 4)]) (by simp [results, Tryd.results19, go_sem]) rfl ⟨rfl, ?_⟩
  exact Below.alloc (Below.alloc (Below.alloc (Below.refl _ _) (Nat.le_refl _) _) (by simp) _) (by simp; omega) _
set_option maxRecDepth 10000 in
set_option maxHeartbeats 8000000 in
theorem beside_tf (l h l' h' : Nat → Int) (fv : Value) (w : World) :
    Calls Tryd.prog 19 #[.agg #[.bool true, .int .i64 (l 0), .int .i64 (h 0), .int .i64 (l 1), .int .i64 (h 1), .int .i64 (l 2), .int .i64 (h 2), .int .i64 (l 3), .int .i64 (h 3), .int .i64 (l 4), .int .i64 (h 4)], .agg #[.bool false, .int .i64 (l' 0), .int .i64 (h' 0), .int .i64 (l' 1), .int .i64 (h' 1), .int .i64 (l' 2), .int .i64 (h' 2), .int .i64 (l' 3), .int .i64 (h' 3), .int .i64 (l' 4), .int .i64 (h' 4)], fv] w fun e w' => e = .returned (.agg #[.bool true, .int .i64 (l 0), .int .i64 (h 0), .int .i64 (l 1), .int .i64 (h 1), .int .i64 (l 2), .int .i64 (h 2), .int .i64 (l 3), .int .i64 (h 3), .int .i64 (l 4), .int .i64 (h 4)]) ∧ Below w.heap.size w w' := by
  go_enter Tryd.func19, Tryd.ntmps19
  go_wp2_with fail
  refine bodyPost_ret (v := .agg #[.bool true, .int .i64 (l 0), .int .i64 (h 0), .int .i64 (l 1), .int .i64 (h 1), .int .i64 (l 2), .int .i64 (h 2), .int .i64 (l 3), .int .i64 (h 3), .int .i64 (l 4), .int .i64 (h 4)]) (by simp [results, Tryd.results19, go_sem]) rfl ⟨rfl, ?_⟩
  exact Below.alloc (Below.alloc (Below.alloc (Below.refl _ _) (Nat.le_refl _) _) (by simp) _) (by simp; omega) _
end Go.Proofs.YtddcojeghdnhnaaDoor
