/- Bounds that grow: the model's (S). -/
import Derived.Test.YtiehokibfdaleaaDoorG16
import Derived.WalkKit
import Derived.ProofKit
import Derived.OpenShut
import Derived.Below
namespace Go.Proofs.YtiehokibfdaleaaDoor
open Go.ChangeShapes Go.WideShapes Go.ChangeAt Go.RowKit

def StepsAt (g : Nat) (W : World) : Prop := ∀ j, j < 11 → W.cell? ⟨g, j, none⟩ = some (.int .i64 (stp j))
theorem stepsS (w : World) :
    Calls Tryd.prog 33 #[] w fun e w' => e = .returned (.slice (some ⟨w.heap.size, 0, none⟩) 11 11) ∧ StepsAt w.heap.size w' ∧ w.heap.size < w'.heap.size ∧ Below w.heap.size w w' := by
  go_enter Tryd.func33, Tryd.ntmps33
  go_wp2
  go_ret
  refine ⟨rfl, fun j hj => ?_, by simp, (Below.refl _ _).alloc (Nat.le_refl _) _⟩
  rcases (show j = 0 ∨ j = 1 ∨ j = 2 ∨ j = 3 ∨ j = 4 ∨ j = 5 ∨ j = 6 ∨ j = 7 ∨ j = 8 ∨ j = 9 ∨ j = 10 by omega) with rfl | rfl | rfl | rfl | rfl | rfl | rfl | rfl | rfl | rfl | rfl <;> simp [stp]
theorem StepsAt.set {g : Nat} {W : World} {p : Addr} {v : Value} (hne : g ≠ p.block) (h : StepsAt g W) : StepsAt g (W.setCell p v) := fun j hj => by
  rw [World.cell?_setCell_other _ _ _ _ (by intro x; exact hne (by rw [x]))]
  exact h j hj
theorem StepsAt.next {g : Nat} {W W' : World} (hg : g < W.heap.size) (hb : Below W.heap.size W W') (h : StepsAt g W) : StepsAt g W' := fun j hj => (hb.cell (p := ⟨g, j, none⟩) hg).trans (h j hj)

/-- What the model's ItvWide holds on to: the copy that grows at X, the steps behind it, the rest. -/
def Inv (w : World) (X : Nat) (a b c d lo hi : Int) (W : World) : Prop :=
  W.cell? ⟨X, 0, none⟩ = some (.int .i64 lo) ∧ W.cell? ⟨X, 1, none⟩ = some (.int .i64 hi) ∧ (∀ i, W.frozen? ⟨X, i, none⟩ = false) ∧ HeldL w [(w.heap.size + 1 + 1, [.int .i64 0, .int .i64 0]), (w.heap.size + 1, [.int .i64 c, .int .i64 d]), (w.heap.size, [.int .i64 a, .int .i64 b])] W ∧ StepsAt (X + 1) W
theorem Inv.put0 {w : World} {X : Nat} {a b c d lo hi s : Int} {W : World} (hX : w.heap.size + 1 + 1 < X) (h : Inv w X a b c d lo hi W) : Inv w X a b c d s hi ((W.setCell ⟨X, 0, none⟩ (.int .i64 s)).drew) := by
  obtain ⟨x0, x1, xf, HV, hS⟩ := h
  refine ⟨World.cell?_setCell_same _ _ _ x0, (World.cell?_setCell_other _ _ _ _ (by simp)).trans x1, fun i => (World.frozen?_setCell _ _ _ _).trans (xf i), (HV.setCell _ _ (by simp only []; omega) ?_).drew, hS.set (by simp only []; omega)⟩
  intro e he
  simp at he
  rcases he with rfl | rfl | rfl <;> simp only [] <;> omega
theorem Inv.put1 {w : World} {X : Nat} {a b c d lo hi s : Int} {W : World} (hX : w.heap.size + 1 + 1 < X) (h : Inv w X a b c d lo hi W) : Inv w X a b c d lo s ((W.setCell ⟨X, 1, none⟩ (.int .i64 s)).drew) := by
  obtain ⟨x0, x1, xf, HV, hS⟩ := h
  refine ⟨(World.cell?_setCell_other _ _ _ _ (by simp)).trans x0, World.cell?_setCell_same _ _ _ x1, fun i => (World.frozen?_setCell _ _ _ _).trans (xf i), (HV.setCell _ _ (by simp only []; omega) ?_).drew, hS.set (by simp only []; omega)⟩
  intro e he
  simp at he
  rcases he with rfl | rfl | rfl <;> simp only [] <;> omega

set_option maxRecDepth 10000 in
set_option maxHeartbeats 8000000 in
theorem wideS_na (a b c d : Int) (w : World) (hab : itvOk a b = false) :
    Calls Tryd.prog 19 #[.agg #[.int .i64 a, .int .i64 b], .agg #[.int .i64 c, .int .i64 d]] w fun e w' => e = .returned (.agg #[.int .i64 (0), .int .i64 (0)]) ∧ Below w.heap.size w w' := by
  go_enter Tryd.func19, Tryd.ntmps19
  go_wp2_with fail
  refine (itvOkS _ _ _).mono ?_
  rintro e w1 ⟨rfl, hB⟩
  have H1 := HeldL.next hB (held3 w (.int .i64 a) (.int .i64 b) (.int .i64 c) (.int .i64 d) (.int .i64 0) (.int .i64 0) 25)
  have c00 : w1.cell? ⟨w.heap.size + 1 + 1, 0, none⟩ = some (.int .i64 0) := H1.cell (e := (w.heap.size + 1 + 1, [.int .i64 0, .int .i64 0])) (by simp) (i := 0) rfl
  have c01 : w1.cell? ⟨w.heap.size + 1 + 1, 1, none⟩ = some (.int .i64 0) := H1.cell (e := (w.heap.size + 1 + 1, [.int .i64 0, .int .i64 0])) (by simp) (i := 1) rfl
  have c10 : w1.cell? ⟨w.heap.size + 1, 0, none⟩ = some (.int .i64 c) := H1.cell (e := (w.heap.size + 1, [.int .i64 c, .int .i64 d])) (by simp) (i := 0) rfl
  have c11 : w1.cell? ⟨w.heap.size + 1, 1, none⟩ = some (.int .i64 d) := H1.cell (e := (w.heap.size + 1, [.int .i64 c, .int .i64 d])) (by simp) (i := 1) rfl
  have f0 : ∀ i, w1.frozen? ⟨w.heap.size + 1 + 1, i, none⟩ = false := H1.free (w.heap.size + 1 + 1, [.int .i64 0, .int .i64 0]) (by simp)
  clear hB
  go_wp2_with fail
  refine bodyPost_ret (v := .agg #[.int .i64 (0), .int .i64 (0)]) (by simp [results, Tryd.results19, go_sem, cell_set, c00, c01]) rfl ⟨rfl, ?_⟩
  repeat (first | exact H1.below | refine Below.drew ?_ | refine Below.setCell ?_ (by simp; try omega) _)

set_option maxRecDepth 10000 in
set_option maxHeartbeats 8000000 in
theorem wideS_nb (a b c d : Int) (w : World) (hab : itvOk a b = true) (hcd : itvOk c d = false) :
    Calls Tryd.prog 19 #[.agg #[.int .i64 a, .int .i64 b], .agg #[.int .i64 c, .int .i64 d]] w fun e w' => e = .returned (.agg #[.int .i64 (0), .int .i64 (0)]) ∧ Below w.heap.size w w' := by
  go_enter Tryd.func19, Tryd.ntmps19
  go_wp2_with fail
  refine (itvOkS _ _ _).mono ?_
  rintro e w1 ⟨rfl, hB⟩
  have H1 := HeldL.next hB (held3 w (.int .i64 a) (.int .i64 b) (.int .i64 c) (.int .i64 d) (.int .i64 0) (.int .i64 0) 25)
  have c00 : w1.cell? ⟨w.heap.size + 1 + 1, 0, none⟩ = some (.int .i64 0) := H1.cell (e := (w.heap.size + 1 + 1, [.int .i64 0, .int .i64 0])) (by simp) (i := 0) rfl
  have c01 : w1.cell? ⟨w.heap.size + 1 + 1, 1, none⟩ = some (.int .i64 0) := H1.cell (e := (w.heap.size + 1 + 1, [.int .i64 0, .int .i64 0])) (by simp) (i := 1) rfl
  have c10 : w1.cell? ⟨w.heap.size + 1, 0, none⟩ = some (.int .i64 c) := H1.cell (e := (w.heap.size + 1, [.int .i64 c, .int .i64 d])) (by simp) (i := 0) rfl
  have c11 : w1.cell? ⟨w.heap.size + 1, 1, none⟩ = some (.int .i64 d) := H1.cell (e := (w.heap.size + 1, [.int .i64 c, .int .i64 d])) (by simp) (i := 1) rfl
  have f0 : ∀ i, w1.frozen? ⟨w.heap.size + 1 + 1, i, none⟩ = false := H1.free (w.heap.size + 1 + 1, [.int .i64 0, .int .i64 0]) (by simp)
  clear hB
  go_wp2_with fail
  refine (itvOkS _ _ _).mono ?_
  rintro e w2 ⟨rfl, hB⟩
  have H2 := HeldL.next hB H1
  clear c00 c01 c10 c11 f0 hB
  have c00 : w2.cell? ⟨w.heap.size + 1 + 1, 0, none⟩ = some (.int .i64 0) := H2.cell (e := (w.heap.size + 1 + 1, [.int .i64 0, .int .i64 0])) (by simp) (i := 0) rfl
  have c01 : w2.cell? ⟨w.heap.size + 1 + 1, 1, none⟩ = some (.int .i64 0) := H2.cell (e := (w.heap.size + 1 + 1, [.int .i64 0, .int .i64 0])) (by simp) (i := 1) rfl
  have c10 : w2.cell? ⟨w.heap.size + 1, 0, none⟩ = some (.int .i64 c) := H2.cell (e := (w.heap.size + 1, [.int .i64 c, .int .i64 d])) (by simp) (i := 0) rfl
  have c11 : w2.cell? ⟨w.heap.size + 1, 1, none⟩ = some (.int .i64 d) := H2.cell (e := (w.heap.size + 1, [.int .i64 c, .int .i64 d])) (by simp) (i := 1) rfl
  have c20 : w2.cell? ⟨w.heap.size, 0, none⟩ = some (.int .i64 a) := H2.cell (e := (w.heap.size, [.int .i64 a, .int .i64 b])) (by simp) (i := 0) rfl
  have c21 : w2.cell? ⟨w.heap.size, 1, none⟩ = some (.int .i64 b) := H2.cell (e := (w.heap.size, [.int .i64 a, .int .i64 b])) (by simp) (i := 1) rfl
  have f0 : ∀ i, w2.frozen? ⟨w.heap.size + 1 + 1, i, none⟩ = false := H2.free (w.heap.size + 1 + 1, [.int .i64 0, .int .i64 0]) (by simp)
  go_wp2_with fail
  refine bodyPost_ret (v := .agg #[.int .i64 (0), .int .i64 (0)]) (by simp [results, Tryd.results19, go_sem, cell_set, c00, c01]) rfl ⟨rfl, ?_⟩
  repeat (first | exact H2.below | refine Below.drew ?_ | refine Below.setCell ?_ (by simp; try omega) _)

set_option maxRecDepth 10000 in
set_option maxHeartbeats 8000000 in
theorem wideS_00 (a b c d : Int) (w : World) (hab : itvOk a b = true) (hcd : itvOk c d = true) (h1 : ¬ c < a) (h2 : ¬ b < d) :
    Calls Tryd.prog 19 #[.agg #[.int .i64 a, .int .i64 b], .agg #[.int .i64 c, .int .i64 d]] w fun e w' => e = .returned (.agg #[.int .i64 (a), .int .i64 (b)]) ∧ Below w.heap.size w w' := by
  go_enter Tryd.func19, Tryd.ntmps19
  go_wp2_with fail
  refine (itvOkS _ _ _).mono ?_
  rintro e w1 ⟨rfl, hB⟩
  have H1 := HeldL.next hB (held3 w (.int .i64 a) (.int .i64 b) (.int .i64 c) (.int .i64 d) (.int .i64 0) (.int .i64 0) 25)
  have c00 : w1.cell? ⟨w.heap.size + 1 + 1, 0, none⟩ = some (.int .i64 0) := H1.cell (e := (w.heap.size + 1 + 1, [.int .i64 0, .int .i64 0])) (by simp) (i := 0) rfl
  have c01 : w1.cell? ⟨w.heap.size + 1 + 1, 1, none⟩ = some (.int .i64 0) := H1.cell (e := (w.heap.size + 1 + 1, [.int .i64 0, .int .i64 0])) (by simp) (i := 1) rfl
  have c10 : w1.cell? ⟨w.heap.size + 1, 0, none⟩ = some (.int .i64 c) := H1.cell (e := (w.heap.size + 1, [.int .i64 c, .int .i64 d])) (by simp) (i := 0) rfl
  have c11 : w1.cell? ⟨w.heap.size + 1, 1, none⟩ = some (.int .i64 d) := H1.cell (e := (w.heap.size + 1, [.int .i64 c, .int .i64 d])) (by simp) (i := 1) rfl
  have f0 : ∀ i, w1.frozen? ⟨w.heap.size + 1 + 1, i, none⟩ = false := H1.free (w.heap.size + 1 + 1, [.int .i64 0, .int .i64 0]) (by simp)
  clear hB
  go_wp2_with fail
  refine (itvOkS _ _ _).mono ?_
  rintro e w2 ⟨rfl, hB⟩
  have H2 := HeldL.next hB H1
  clear c00 c01 c10 c11 f0 hB
  have c00 : w2.cell? ⟨w.heap.size + 1 + 1, 0, none⟩ = some (.int .i64 0) := H2.cell (e := (w.heap.size + 1 + 1, [.int .i64 0, .int .i64 0])) (by simp) (i := 0) rfl
  have c01 : w2.cell? ⟨w.heap.size + 1 + 1, 1, none⟩ = some (.int .i64 0) := H2.cell (e := (w.heap.size + 1 + 1, [.int .i64 0, .int .i64 0])) (by simp) (i := 1) rfl
  have c10 : w2.cell? ⟨w.heap.size + 1, 0, none⟩ = some (.int .i64 c) := H2.cell (e := (w.heap.size + 1, [.int .i64 c, .int .i64 d])) (by simp) (i := 0) rfl
  have c11 : w2.cell? ⟨w.heap.size + 1, 1, none⟩ = some (.int .i64 d) := H2.cell (e := (w.heap.size + 1, [.int .i64 c, .int .i64 d])) (by simp) (i := 1) rfl
  have c20 : w2.cell? ⟨w.heap.size, 0, none⟩ = some (.int .i64 a) := H2.cell (e := (w.heap.size, [.int .i64 a, .int .i64 b])) (by simp) (i := 0) rfl
  have c21 : w2.cell? ⟨w.heap.size, 1, none⟩ = some (.int .i64 b) := H2.cell (e := (w.heap.size, [.int .i64 a, .int .i64 b])) (by simp) (i := 1) rfl
  have f0 : ∀ i, w2.frozen? ⟨w.heap.size + 1 + 1, i, none⟩ = false := H2.free (w.heap.size + 1 + 1, [.int .i64 0, .int .i64 0]) (by simp)
  go_wp2_with fail
  refine (stepsS _).mono ?_
  rintro e w3 ⟨rfl, hS, hS1, hB⟩
  have H3 := HeldL.next hB (HeldL.new H2)
  clear c00 c01 c10 c11 c20 c21 f0 hB H1
  have z2 : w.heap.size + 1 + 1 < w2.heap.size := H2.size (e := (w.heap.size + 1 + 1, [.int .i64 0, .int .i64 0])) (by simp)
  have eG : (w2.alloc (.cells #[.int .i64 a, .int .i64 b] 25)).heap.size = w2.heap.size + 1 := by simp
  rw [eG] at hS hS1
  have V3 : Inv w w2.heap.size a b c d a b w3 := ⟨H3.cell (e := (w2.heap.size, [.int .i64 a, .int .i64 b])) List.mem_cons_self (i := 0) rfl, H3.cell (e := (w2.heap.size, [.int .i64 a, .int .i64 b])) List.mem_cons_self (i := 1) rfl, H3.free (w2.heap.size, [.int .i64 a, .int .i64 b]) List.mem_cons_self, H3.sub (fun e he => List.mem_cons_of_mem _ he), hS⟩
  clear H3 H2 hS hS1 eG
  obtain ⟨x0, x1, xf, HV, hS⟩ := V3
  have c00 : w3.cell? ⟨w.heap.size + 1 + 1, 0, none⟩ = some (.int .i64 0) := HV.cell (e := (w.heap.size + 1 + 1, [.int .i64 0, .int .i64 0])) (by simp) (i := 0) rfl
  have c01 : w3.cell? ⟨w.heap.size + 1 + 1, 1, none⟩ = some (.int .i64 0) := HV.cell (e := (w.heap.size + 1 + 1, [.int .i64 0, .int .i64 0])) (by simp) (i := 1) rfl
  have c10 : w3.cell? ⟨w.heap.size + 1, 0, none⟩ = some (.int .i64 c) := HV.cell (e := (w.heap.size + 1, [.int .i64 c, .int .i64 d])) (by simp) (i := 0) rfl
  have c11 : w3.cell? ⟨w.heap.size + 1, 1, none⟩ = some (.int .i64 d) := HV.cell (e := (w.heap.size + 1, [.int .i64 c, .int .i64 d])) (by simp) (i := 1) rfl
  have c20 : w3.cell? ⟨w.heap.size, 0, none⟩ = some (.int .i64 a) := HV.cell (e := (w.heap.size, [.int .i64 a, .int .i64 b])) (by simp) (i := 0) rfl
  have c21 : w3.cell? ⟨w.heap.size, 1, none⟩ = some (.int .i64 b) := HV.cell (e := (w.heap.size, [.int .i64 a, .int .i64 b])) (by simp) (i := 1) rfl
  have f0 : ∀ i, w3.frozen? ⟨w.heap.size + 1 + 1, i, none⟩ = false := HV.free (w.heap.size + 1 + 1, [.int .i64 0, .int .i64 0]) (by simp)
  go_wp2_with fail
  refine bodyPost_ret (v := .agg #[.int .i64 (a), .int .i64 (b)]) (by simp [results, Tryd.results19, go_sem, cell_set, c00, c01]) rfl ⟨rfl, ?_⟩
  repeat (first | exact HV.below | refine Below.drew ?_ | refine Below.setCell ?_ (by simp; try omega) _)

set_option maxRecDepth 10000 in
set_option maxHeartbeats 8000000 in
theorem wideS_10 (a b c d : Int) (w : World) (hab : itvOk a b = true) (hcd : itvOk c d = true) (h1 : c < a) (h2 : ¬ b < d) :
    Calls Tryd.prog 19 #[.agg #[.int .i64 a, .int .i64 b], .agg #[.int .i64 c, .int .i64 d]] w fun e w' => e = .returned (.agg #[.int .i64 (dnA a c 11), .int .i64 (b)]) ∧ Below w.heap.size w w' := by
  go_enter Tryd.func19, Tryd.ntmps19
  go_wp2_with fail
  refine (itvOkS _ _ _).mono ?_
  rintro e w1 ⟨rfl, hB⟩
  have H1 := HeldL.next hB (held3 w (.int .i64 a) (.int .i64 b) (.int .i64 c) (.int .i64 d) (.int .i64 0) (.int .i64 0) 25)
  have c00 : w1.cell? ⟨w.heap.size + 1 + 1, 0, none⟩ = some (.int .i64 0) := H1.cell (e := (w.heap.size + 1 + 1, [.int .i64 0, .int .i64 0])) (by simp) (i := 0) rfl
  have c01 : w1.cell? ⟨w.heap.size + 1 + 1, 1, none⟩ = some (.int .i64 0) := H1.cell (e := (w.heap.size + 1 + 1, [.int .i64 0, .int .i64 0])) (by simp) (i := 1) rfl
  have c10 : w1.cell? ⟨w.heap.size + 1, 0, none⟩ = some (.int .i64 c) := H1.cell (e := (w.heap.size + 1, [.int .i64 c, .int .i64 d])) (by simp) (i := 0) rfl
  have c11 : w1.cell? ⟨w.heap.size + 1, 1, none⟩ = some (.int .i64 d) := H1.cell (e := (w.heap.size + 1, [.int .i64 c, .int .i64 d])) (by simp) (i := 1) rfl
  have f0 : ∀ i, w1.frozen? ⟨w.heap.size + 1 + 1, i, none⟩ = false := H1.free (w.heap.size + 1 + 1, [.int .i64 0, .int .i64 0]) (by simp)
  clear hB
  go_wp2_with fail
  refine (itvOkS _ _ _).mono ?_
  rintro e w2 ⟨rfl, hB⟩
  have H2 := HeldL.next hB H1
  clear c00 c01 c10 c11 f0 hB
  have c00 : w2.cell? ⟨w.heap.size + 1 + 1, 0, none⟩ = some (.int .i64 0) := H2.cell (e := (w.heap.size + 1 + 1, [.int .i64 0, .int .i64 0])) (by simp) (i := 0) rfl
  have c01 : w2.cell? ⟨w.heap.size + 1 + 1, 1, none⟩ = some (.int .i64 0) := H2.cell (e := (w.heap.size + 1 + 1, [.int .i64 0, .int .i64 0])) (by simp) (i := 1) rfl
  have c10 : w2.cell? ⟨w.heap.size + 1, 0, none⟩ = some (.int .i64 c) := H2.cell (e := (w.heap.size + 1, [.int .i64 c, .int .i64 d])) (by simp) (i := 0) rfl
  have c11 : w2.cell? ⟨w.heap.size + 1, 1, none⟩ = some (.int .i64 d) := H2.cell (e := (w.heap.size + 1, [.int .i64 c, .int .i64 d])) (by simp) (i := 1) rfl
  have c20 : w2.cell? ⟨w.heap.size, 0, none⟩ = some (.int .i64 a) := H2.cell (e := (w.heap.size, [.int .i64 a, .int .i64 b])) (by simp) (i := 0) rfl
  have c21 : w2.cell? ⟨w.heap.size, 1, none⟩ = some (.int .i64 b) := H2.cell (e := (w.heap.size, [.int .i64 a, .int .i64 b])) (by simp) (i := 1) rfl
  have f0 : ∀ i, w2.frozen? ⟨w.heap.size + 1 + 1, i, none⟩ = false := H2.free (w.heap.size + 1 + 1, [.int .i64 0, .int .i64 0]) (by simp)
  go_wp2_with fail
  refine (stepsS _).mono ?_
  rintro e w3 ⟨rfl, hS, hS1, hB⟩
  have H3 := HeldL.next hB (HeldL.new H2)
  clear c00 c01 c10 c11 c20 c21 f0 hB H1
  have z2 : w.heap.size + 1 + 1 < w2.heap.size := H2.size (e := (w.heap.size + 1 + 1, [.int .i64 0, .int .i64 0])) (by simp)
  have eG : (w2.alloc (.cells #[.int .i64 a, .int .i64 b] 25)).heap.size = w2.heap.size + 1 := by simp
  rw [eG] at hS hS1
  have V3 : Inv w w2.heap.size a b c d a b w3 := ⟨H3.cell (e := (w2.heap.size, [.int .i64 a, .int .i64 b])) List.mem_cons_self (i := 0) rfl, H3.cell (e := (w2.heap.size, [.int .i64 a, .int .i64 b])) List.mem_cons_self (i := 1) rfl, H3.free (w2.heap.size, [.int .i64 a, .int .i64 b]) List.mem_cons_self, H3.sub (fun e he => List.mem_cons_of_mem _ he), hS⟩
  clear H3 H2 hS hS1 eG
  obtain ⟨x0, x1, xf, HV, hS⟩ := V3
  have c00 : w3.cell? ⟨w.heap.size + 1 + 1, 0, none⟩ = some (.int .i64 0) := HV.cell (e := (w.heap.size + 1 + 1, [.int .i64 0, .int .i64 0])) (by simp) (i := 0) rfl
  have c01 : w3.cell? ⟨w.heap.size + 1 + 1, 1, none⟩ = some (.int .i64 0) := HV.cell (e := (w.heap.size + 1 + 1, [.int .i64 0, .int .i64 0])) (by simp) (i := 1) rfl
  have c10 : w3.cell? ⟨w.heap.size + 1, 0, none⟩ = some (.int .i64 c) := HV.cell (e := (w.heap.size + 1, [.int .i64 c, .int .i64 d])) (by simp) (i := 0) rfl
  have c11 : w3.cell? ⟨w.heap.size + 1, 1, none⟩ = some (.int .i64 d) := HV.cell (e := (w.heap.size + 1, [.int .i64 c, .int .i64 d])) (by simp) (i := 1) rfl
  have c20 : w3.cell? ⟨w.heap.size, 0, none⟩ = some (.int .i64 a) := HV.cell (e := (w.heap.size, [.int .i64 a, .int .i64 b])) (by simp) (i := 0) rfl
  have c21 : w3.cell? ⟨w.heap.size, 1, none⟩ = some (.int .i64 b) := HV.cell (e := (w.heap.size, [.int .i64 a, .int .i64 b])) (by simp) (i := 1) rfl
  have f0 : ∀ i, w3.frozen? ⟨w.heap.size + 1 + 1, i, none⟩ = false := HV.free (w.heap.size + 1 + 1, [.int .i64 0, .int .i64 0]) (by simp)
  go_wp2_with fail
  have V3 : Inv w w2.heap.size a b c d (a) (b) _ := ⟨x0, x1, xf, HV, hS⟩
  clear x0 x1 xf HV hS c00 c01 c10 c11 c20 c21 f0
  go_loopw [7] (fun i wr => ∃ k : Nat, k ≤ 11 ∧ i = .int .i64 k ∧ Inv w w2.heap.size a b c d (dnA a c k) (b) wr)
    (fun i _ => 11 - (intOf i).toNat)
  case atStart => exact ⟨0, Nat.zero_le _, rfl, V3⟩
  case round =>
    obtain ⟨k, hk, rfl, V⟩ := hrel
    by_cases hlt : k < 11
    · obtain ⟨x0, x1, xf, HV, hS⟩ := V
      have hs := hS (k) (by omega)
      have c10 : wr.cell? ⟨w.heap.size + 1, 0, none⟩ = some (.int .i64 c) := HV.cell (e := (w.heap.size + 1, [.int .i64 c, .int .i64 d])) (by simp) (i := 0) rfl
      have c11 : wr.cell? ⟨w.heap.size + 1, 1, none⟩ = some (.int .i64 d) := HV.cell (e := (w.heap.size + 1, [.int .i64 c, .int .i64 d])) (by simp) (i := 1) rfl
      have t1 : (k : Int) < 11 := by omega
      have E : Hid (dnA a c (k + 1) = if stp k ≤ c then stp k else dnA a c k) := rfl
      obtain ⟨s, hs0⟩ : ∃ s, s = stp k := ⟨_, rfl⟩
      obtain ⟨m, hm0⟩ : ∃ m, m = dnA a c k := ⟨_, rfl⟩
      rw [← hs0] at hs
      rw [← hm0] at x0
      have E1 : Hid (dnA a c (k + 1) = if s ≤ c then s else m) := by
        have e : dnA a c (k + 1) = if stp k ≤ c then stp k else dnA a c k := E
        rw [← hs0, ← hm0] at e
        exact e
      clear hs0 hm0 E
      by_cases hc : s ≤ c
      · go_wp2_with fail
        go_region
        all_goals (go_wp2_with fail)
        all_goals go_roundw
        all_goals
          have e : dnA a c (k + 1) = if s ≤ c then s else m := E1
          rw [if_pos hc] at e
          first | exact ⟨k + 1, by omega, by go_num, by rw [e]; exact Inv.put0 z2 ⟨x0, x1, xf, HV, hS⟩⟩ | (simp [intOf]; omega)
      · go_wp2_with fail
        go_region
        all_goals (go_wp2_with fail)
        all_goals go_roundw
        all_goals
          have e : dnA a c (k + 1) = if s ≤ c then s else m := E1
          rw [if_neg (by omega)] at e
          first | exact ⟨k + 1, by omega, by go_num, by rw [e]; exact ⟨x0, x1, xf, HV.drew, hS⟩⟩ | (simp [intOf]; omega)
    · obtain rfl : k = 11 := by omega
      obtain ⟨x0, x1, xf, HV, hS⟩ := V
      have c00 : wr.cell? ⟨w.heap.size + 1 + 1, 0, none⟩ = some (.int .i64 0) := HV.cell (e := (w.heap.size + 1 + 1, [.int .i64 0, .int .i64 0])) (by simp) (i := 0) rfl
      have c01 : wr.cell? ⟨w.heap.size + 1 + 1, 1, none⟩ = some (.int .i64 0) := HV.cell (e := (w.heap.size + 1 + 1, [.int .i64 0, .int .i64 0])) (by simp) (i := 1) rfl
      have c10 : wr.cell? ⟨w.heap.size + 1, 0, none⟩ = some (.int .i64 c) := HV.cell (e := (w.heap.size + 1, [.int .i64 c, .int .i64 d])) (by simp) (i := 0) rfl
      have c11 : wr.cell? ⟨w.heap.size + 1, 1, none⟩ = some (.int .i64 d) := HV.cell (e := (w.heap.size + 1, [.int .i64 c, .int .i64 d])) (by simp) (i := 1) rfl
      have c20 : wr.cell? ⟨w.heap.size, 0, none⟩ = some (.int .i64 a) := HV.cell (e := (w.heap.size, [.int .i64 a, .int .i64 b])) (by simp) (i := 0) rfl
      have c21 : wr.cell? ⟨w.heap.size, 1, none⟩ = some (.int .i64 b) := HV.cell (e := (w.heap.size, [.int .i64 a, .int .i64 b])) (by simp) (i := 1) rfl
      have f0 : ∀ i, wr.frozen? ⟨w.heap.size + 1 + 1, i, none⟩ = false := HV.free (w.heap.size + 1 + 1, [.int .i64 0, .int .i64 0]) (by simp)
      go_wp2_with fail
      refine bodyPost_ret (v := .agg #[.int .i64 (dnA a c 11), .int .i64 (b)]) (by simp [results, Tryd.results19, go_sem, cell_set, c00, c01]) rfl ⟨rfl, ?_⟩
      repeat (first | exact HV.below | refine Below.drew ?_ | refine Below.setCell ?_ (by simp; try omega) _)

set_option maxRecDepth 10000 in
set_option maxHeartbeats 8000000 in
theorem wideS_01 (a b c d : Int) (w : World) (hab : itvOk a b = true) (hcd : itvOk c d = true) (h1 : ¬ c < a) (h2 : b < d) :
    Calls Tryd.prog 19 #[.agg #[.int .i64 a, .int .i64 b], .agg #[.int .i64 c, .int .i64 d]] w fun e w' => e = .returned (.agg #[.int .i64 (a), .int .i64 (upA b d 11)]) ∧ Below w.heap.size w w' := by
  go_enter Tryd.func19, Tryd.ntmps19
  go_wp2_with fail
  refine (itvOkS _ _ _).mono ?_
  rintro e w1 ⟨rfl, hB⟩
  have H1 := HeldL.next hB (held3 w (.int .i64 a) (.int .i64 b) (.int .i64 c) (.int .i64 d) (.int .i64 0) (.int .i64 0) 25)
  have c00 : w1.cell? ⟨w.heap.size + 1 + 1, 0, none⟩ = some (.int .i64 0) := H1.cell (e := (w.heap.size + 1 + 1, [.int .i64 0, .int .i64 0])) (by simp) (i := 0) rfl
  have c01 : w1.cell? ⟨w.heap.size + 1 + 1, 1, none⟩ = some (.int .i64 0) := H1.cell (e := (w.heap.size + 1 + 1, [.int .i64 0, .int .i64 0])) (by simp) (i := 1) rfl
  have c10 : w1.cell? ⟨w.heap.size + 1, 0, none⟩ = some (.int .i64 c) := H1.cell (e := (w.heap.size + 1, [.int .i64 c, .int .i64 d])) (by simp) (i := 0) rfl
  have c11 : w1.cell? ⟨w.heap.size + 1, 1, none⟩ = some (.int .i64 d) := H1.cell (e := (w.heap.size + 1, [.int .i64 c, .int .i64 d])) (by simp) (i := 1) rfl
  have f0 : ∀ i, w1.frozen? ⟨w.heap.size + 1 + 1, i, none⟩ = false := H1.free (w.heap.size + 1 + 1, [.int .i64 0, .int .i64 0]) (by simp)
  clear hB
  go_wp2_with fail
  refine (itvOkS _ _ _).mono ?_
  rintro e w2 ⟨rfl, hB⟩
  have H2 := HeldL.next hB H1
  clear c00 c01 c10 c11 f0 hB
  have c00 : w2.cell? ⟨w.heap.size + 1 + 1, 0, none⟩ = some (.int .i64 0) := H2.cell (e := (w.heap.size + 1 + 1, [.int .i64 0, .int .i64 0])) (by simp) (i := 0) rfl
  have c01 : w2.cell? ⟨w.heap.size + 1 + 1, 1, none⟩ = some (.int .i64 0) := H2.cell (e := (w.heap.size + 1 + 1, [.int .i64 0, .int .i64 0])) (by simp) (i := 1) rfl
  have c10 : w2.cell? ⟨w.heap.size + 1, 0, none⟩ = some (.int .i64 c) := H2.cell (e := (w.heap.size + 1, [.int .i64 c, .int .i64 d])) (by simp) (i := 0) rfl
  have c11 : w2.cell? ⟨w.heap.size + 1, 1, none⟩ = some (.int .i64 d) := H2.cell (e := (w.heap.size + 1, [.int .i64 c, .int .i64 d])) (by simp) (i := 1) rfl
  have c20 : w2.cell? ⟨w.heap.size, 0, none⟩ = some (.int .i64 a) := H2.cell (e := (w.heap.size, [.int .i64 a, .int .i64 b])) (by simp) (i := 0) rfl
  have c21 : w2.cell? ⟨w.heap.size, 1, none⟩ = some (.int .i64 b) := H2.cell (e := (w.heap.size, [.int .i64 a, .int .i64 b])) (by simp) (i := 1) rfl
  have f0 : ∀ i, w2.frozen? ⟨w.heap.size + 1 + 1, i, none⟩ = false := H2.free (w.heap.size + 1 + 1, [.int .i64 0, .int .i64 0]) (by simp)
  go_wp2_with fail
  refine (stepsS _).mono ?_
  rintro e w3 ⟨rfl, hS, hS1, hB⟩
  have H3 := HeldL.next hB (HeldL.new H2)
  clear c00 c01 c10 c11 c20 c21 f0 hB H1
  have z2 : w.heap.size + 1 + 1 < w2.heap.size := H2.size (e := (w.heap.size + 1 + 1, [.int .i64 0, .int .i64 0])) (by simp)
  have eG : (w2.alloc (.cells #[.int .i64 a, .int .i64 b] 25)).heap.size = w2.heap.size + 1 := by simp
  rw [eG] at hS hS1
  have V3 : Inv w w2.heap.size a b c d a b w3 := ⟨H3.cell (e := (w2.heap.size, [.int .i64 a, .int .i64 b])) List.mem_cons_self (i := 0) rfl, H3.cell (e := (w2.heap.size, [.int .i64 a, .int .i64 b])) List.mem_cons_self (i := 1) rfl, H3.free (w2.heap.size, [.int .i64 a, .int .i64 b]) List.mem_cons_self, H3.sub (fun e he => List.mem_cons_of_mem _ he), hS⟩
  clear H3 H2 hS hS1 eG
  obtain ⟨x0, x1, xf, HV, hS⟩ := V3
  have c00 : w3.cell? ⟨w.heap.size + 1 + 1, 0, none⟩ = some (.int .i64 0) := HV.cell (e := (w.heap.size + 1 + 1, [.int .i64 0, .int .i64 0])) (by simp) (i := 0) rfl
  have c01 : w3.cell? ⟨w.heap.size + 1 + 1, 1, none⟩ = some (.int .i64 0) := HV.cell (e := (w.heap.size + 1 + 1, [.int .i64 0, .int .i64 0])) (by simp) (i := 1) rfl
  have c10 : w3.cell? ⟨w.heap.size + 1, 0, none⟩ = some (.int .i64 c) := HV.cell (e := (w.heap.size + 1, [.int .i64 c, .int .i64 d])) (by simp) (i := 0) rfl
  have c11 : w3.cell? ⟨w.heap.size + 1, 1, none⟩ = some (.int .i64 d) := HV.cell (e := (w.heap.size + 1, [.int .i64 c, .int .i64 d])) (by simp) (i := 1) rfl
  have c20 : w3.cell? ⟨w.heap.size, 0, none⟩ = some (.int .i64 a) := HV.cell (e := (w.heap.size, [.int .i64 a, .int .i64 b])) (by simp) (i := 0) rfl
  have c21 : w3.cell? ⟨w.heap.size, 1, none⟩ = some (.int .i64 b) := HV.cell (e := (w.heap.size, [.int .i64 a, .int .i64 b])) (by simp) (i := 1) rfl
  have f0 : ∀ i, w3.frozen? ⟨w.heap.size + 1 + 1, i, none⟩ = false := HV.free (w.heap.size + 1 + 1, [.int .i64 0, .int .i64 0]) (by simp)
  go_wp2_with fail
  have V3 : Inv w w2.heap.size a b c d (a) (b) _ := ⟨x0, x1, xf, HV, hS⟩
  clear x0 x1 xf HV hS c00 c01 c10 c11 c20 c21 f0
  go_loopw [8] (fun i wr => ∃ k : Nat, k ≤ 11 ∧ i = .int .i64 (10 - (k : Int)) ∧ Inv w w2.heap.size a b c d (a) (upA b d k) wr)
    (fun i _ => (intOf i + 1).toNat)
  case atStart => exact ⟨0, Nat.zero_le _, rfl, V3⟩
  case round =>
    obtain ⟨k, hk, rfl, V⟩ := hrel
    by_cases hlt : k < 11
    · obtain ⟨x0, x1, xf, HV, hS⟩ := V
      have hs := hS (10 - k) (by omega)
      have c10 : wr.cell? ⟨w.heap.size + 1, 0, none⟩ = some (.int .i64 c) := HV.cell (e := (w.heap.size + 1, [.int .i64 c, .int .i64 d])) (by simp) (i := 0) rfl
      have c11 : wr.cell? ⟨w.heap.size + 1, 1, none⟩ = some (.int .i64 d) := HV.cell (e := (w.heap.size + 1, [.int .i64 c, .int .i64 d])) (by simp) (i := 1) rfl
      have t1 : (0 : Int) ≤ 10 - (k : Int) := by omega
      have t2 : (10 - (k : Int)) < 11 := by omega
      have t3 : (10 - (k : Int)).toNat = 10 - k := by omega
      have E : Hid (upA b d (k + 1) = if d ≤ stp (10 - k) then stp (10 - k) else upA b d k) := rfl
      obtain ⟨s, hs0⟩ : ∃ s, s = stp (10 - k) := ⟨_, rfl⟩
      obtain ⟨m, hm0⟩ : ∃ m, m = upA b d k := ⟨_, rfl⟩
      rw [← hs0] at hs
      rw [← hm0] at x1
      have E1 : Hid (upA b d (k + 1) = if d ≤ s then s else m) := by
        have e : upA b d (k + 1) = if d ≤ stp (10 - k) then stp (10 - k) else upA b d k := E
        rw [← hs0, ← hm0] at e
        exact e
      clear hs0 hm0 E
      by_cases hc : d ≤ s
      · go_wp2_with fail
        go_region
        all_goals (go_wp2_with fail)
        all_goals go_roundw
        all_goals
          have e : upA b d (k + 1) = if d ≤ s then s else m := E1
          rw [if_pos hc] at e
          first | exact ⟨k + 1, by omega, by go_num, by rw [e]; exact Inv.put1 z2 ⟨x0, x1, xf, HV, hS⟩⟩ | (simp [intOf]; omega)
      · go_wp2_with fail
        go_region
        all_goals (go_wp2_with fail)
        all_goals go_roundw
        all_goals
          have e : upA b d (k + 1) = if d ≤ s then s else m := E1
          rw [if_neg (by omega)] at e
          first | exact ⟨k + 1, by omega, by go_num, by rw [e]; exact ⟨x0, x1, xf, HV.drew, hS⟩⟩ | (simp [intOf]; omega)
    · obtain rfl : k = 11 := by omega
      obtain ⟨x0, x1, xf, HV, hS⟩ := V
      have c00 : wr.cell? ⟨w.heap.size + 1 + 1, 0, none⟩ = some (.int .i64 0) := HV.cell (e := (w.heap.size + 1 + 1, [.int .i64 0, .int .i64 0])) (by simp) (i := 0) rfl
      have c01 : wr.cell? ⟨w.heap.size + 1 + 1, 1, none⟩ = some (.int .i64 0) := HV.cell (e := (w.heap.size + 1 + 1, [.int .i64 0, .int .i64 0])) (by simp) (i := 1) rfl
      have c10 : wr.cell? ⟨w.heap.size + 1, 0, none⟩ = some (.int .i64 c) := HV.cell (e := (w.heap.size + 1, [.int .i64 c, .int .i64 d])) (by simp) (i := 0) rfl
      have c11 : wr.cell? ⟨w.heap.size + 1, 1, none⟩ = some (.int .i64 d) := HV.cell (e := (w.heap.size + 1, [.int .i64 c, .int .i64 d])) (by simp) (i := 1) rfl
      have c20 : wr.cell? ⟨w.heap.size, 0, none⟩ = some (.int .i64 a) := HV.cell (e := (w.heap.size, [.int .i64 a, .int .i64 b])) (by simp) (i := 0) rfl
      have c21 : wr.cell? ⟨w.heap.size, 1, none⟩ = some (.int .i64 b) := HV.cell (e := (w.heap.size, [.int .i64 a, .int .i64 b])) (by simp) (i := 1) rfl
      have f0 : ∀ i, wr.frozen? ⟨w.heap.size + 1 + 1, i, none⟩ = false := HV.free (w.heap.size + 1 + 1, [.int .i64 0, .int .i64 0]) (by simp)
      go_wp2_with fail
      refine bodyPost_ret (v := .agg #[.int .i64 (a), .int .i64 (upA b d 11)]) (by simp [results, Tryd.results19, go_sem, cell_set, c00, c01]) rfl ⟨rfl, ?_⟩
      repeat (first | exact HV.below | refine Below.drew ?_ | refine Below.setCell ?_ (by simp; try omega) _)

set_option maxRecDepth 10000 in
set_option maxHeartbeats 8000000 in
theorem wideS_11 (a b c d : Int) (w : World) (hab : itvOk a b = true) (hcd : itvOk c d = true) (h1 : c < a) (h2 : b < d) :
    Calls Tryd.prog 19 #[.agg #[.int .i64 a, .int .i64 b], .agg #[.int .i64 c, .int .i64 d]] w fun e w' => e = .returned (.agg #[.int .i64 (dnA a c 11), .int .i64 (upA b d 11)]) ∧ Below w.heap.size w w' := by
  go_enter Tryd.func19, Tryd.ntmps19
  go_wp2_with fail
  refine (itvOkS _ _ _).mono ?_
  rintro e w1 ⟨rfl, hB⟩
  have H1 := HeldL.next hB (held3 w (.int .i64 a) (.int .i64 b) (.int .i64 c) (.int .i64 d) (.int .i64 0) (.int .i64 0) 25)
  have c00 : w1.cell? ⟨w.heap.size + 1 + 1, 0, none⟩ = some (.int .i64 0) := H1.cell (e := (w.heap.size + 1 + 1, [.int .i64 0, .int .i64 0])) (by simp) (i := 0) rfl
  have c01 : w1.cell? ⟨w.heap.size + 1 + 1, 1, none⟩ = some (.int .i64 0) := H1.cell (e := (w.heap.size + 1 + 1, [.int .i64 0, .int .i64 0])) (by simp) (i := 1) rfl
  have c10 : w1.cell? ⟨w.heap.size + 1, 0, none⟩ = some (.int .i64 c) := H1.cell (e := (w.heap.size + 1, [.int .i64 c, .int .i64 d])) (by simp) (i := 0) rfl
  have c11 : w1.cell? ⟨w.heap.size + 1, 1, none⟩ = some (.int .i64 d) := H1.cell (e := (w.heap.size + 1, [.int .i64 c, .int .i64 d])) (by simp) (i := 1) rfl
  have f0 : ∀ i, w1.frozen? ⟨w.heap.size + 1 + 1, i, none⟩ = false := H1.free (w.heap.size + 1 + 1, [.int .i64 0, .int .i64 0]) (by simp)
  clear hB
  go_wp2_with fail
  refine (itvOkS _ _ _).mono ?_
  rintro e w2 ⟨rfl, hB⟩
  have H2 := HeldL.next hB H1
  clear c00 c01 c10 c11 f0 hB
  have c00 : w2.cell? ⟨w.heap.size + 1 + 1, 0, none⟩ = some (.int .i64 0) := H2.cell (e := (w.heap.size + 1 + 1, [.int .i64 0, .int .i64 0])) (by simp) (i := 0) rfl
  have c01 : w2.cell? ⟨w.heap.size + 1 + 1, 1, none⟩ = some (.int .i64 0) := H2.cell (e := (w.heap.size + 1 + 1, [.int .i64 0, .int .i64 0])) (by simp) (i := 1) rfl
  have c10 : w2.cell? ⟨w.heap.size + 1, 0, none⟩ = some (.int .i64 c) := H2.cell (e := (w.heap.size + 1, [.int .i64 c, .int .i64 d])) (by simp) (i := 0) rfl
  have c11 : w2.cell? ⟨w.heap.size + 1, 1, none⟩ = some (.int .i64 d) := H2.cell (e := (w.heap.size + 1, [.int .i64 c, .int .i64 d])) (by simp) (i := 1) rfl
  have c20 : w2.cell? ⟨w.heap.size, 0, none⟩ = some (.int .i64 a) := H2.cell (e := (w.heap.size, [.int .i64 a, .int .i64 b])) (by simp) (i := 0) rfl
  have c21 : w2.cell? ⟨w.heap.size, 1, none⟩ = some (.int .i64 b) := H2.cell (e := (w.heap.size, [.int .i64 a, .int .i64 b])) (by simp) (i := 1) rfl
  have f0 : ∀ i, w2.frozen? ⟨w.heap.size + 1 + 1, i, none⟩ = false := H2.free (w.heap.size + 1 + 1, [.int .i64 0, .int .i64 0]) (by simp)
  go_wp2_with fail
  refine (stepsS _).mono ?_
  rintro e w3 ⟨rfl, hS, hS1, hB⟩
  have H3 := HeldL.next hB (HeldL.new H2)
  clear c00 c01 c10 c11 c20 c21 f0 hB H1
  have z2 : w.heap.size + 1 + 1 < w2.heap.size := H2.size (e := (w.heap.size + 1 + 1, [.int .i64 0, .int .i64 0])) (by simp)
  have eG : (w2.alloc (.cells #[.int .i64 a, .int .i64 b] 25)).heap.size = w2.heap.size + 1 := by simp
  rw [eG] at hS hS1
  have V3 : Inv w w2.heap.size a b c d a b w3 := ⟨H3.cell (e := (w2.heap.size, [.int .i64 a, .int .i64 b])) List.mem_cons_self (i := 0) rfl, H3.cell (e := (w2.heap.size, [.int .i64 a, .int .i64 b])) List.mem_cons_self (i := 1) rfl, H3.free (w2.heap.size, [.int .i64 a, .int .i64 b]) List.mem_cons_self, H3.sub (fun e he => List.mem_cons_of_mem _ he), hS⟩
  clear H3 H2 hS hS1 eG
  obtain ⟨x0, x1, xf, HV, hS⟩ := V3
  have c00 : w3.cell? ⟨w.heap.size + 1 + 1, 0, none⟩ = some (.int .i64 0) := HV.cell (e := (w.heap.size + 1 + 1, [.int .i64 0, .int .i64 0])) (by simp) (i := 0) rfl
  have c01 : w3.cell? ⟨w.heap.size + 1 + 1, 1, none⟩ = some (.int .i64 0) := HV.cell (e := (w.heap.size + 1 + 1, [.int .i64 0, .int .i64 0])) (by simp) (i := 1) rfl
  have c10 : w3.cell? ⟨w.heap.size + 1, 0, none⟩ = some (.int .i64 c) := HV.cell (e := (w.heap.size + 1, [.int .i64 c, .int .i64 d])) (by simp) (i := 0) rfl
  have c11 : w3.cell? ⟨w.heap.size + 1, 1, none⟩ = some (.int .i64 d) := HV.cell (e := (w.heap.size + 1, [.int .i64 c, .int .i64 d])) (by simp) (i := 1) rfl
  have c20 : w3.cell? ⟨w.heap.size, 0, none⟩ = some (.int .i64 a) := HV.cell (e := (w.heap.size, [.int .i64 a, .int .i64 b])) (by simp) (i := 0) rfl
  have c21 : w3.cell? ⟨w.heap.size, 1, none⟩ = some (.int .i64 b) := HV.cell (e := (w.heap.size, [.int .i64 a, .int .i64 b])) (by simp) (i := 1) rfl
  have f0 : ∀ i, w3.frozen? ⟨w.heap.size + 1 + 1, i, none⟩ = false := HV.free (w.heap.size + 1 + 1, [.int .i64 0, .int .i64 0]) (by simp)
  go_wp2_with fail
  have V3 : Inv w w2.heap.size a b c d (a) (b) _ := ⟨x0, x1, xf, HV, hS⟩
  clear x0 x1 xf HV hS c00 c01 c10 c11 c20 c21 f0
  go_loopw [7] (fun i wr => ∃ k : Nat, k ≤ 11 ∧ i = .int .i64 k ∧ Inv w w2.heap.size a b c d (dnA a c k) (b) wr)
    (fun i _ => 11 - (intOf i).toNat)
  case atStart => exact ⟨0, Nat.zero_le _, rfl, V3⟩
  case round =>
    obtain ⟨k, hk, rfl, V⟩ := hrel
    by_cases hlt : k < 11
    · obtain ⟨x0, x1, xf, HV, hS⟩ := V
      have hs := hS (k) (by omega)
      have c10 : wr.cell? ⟨w.heap.size + 1, 0, none⟩ = some (.int .i64 c) := HV.cell (e := (w.heap.size + 1, [.int .i64 c, .int .i64 d])) (by simp) (i := 0) rfl
      have c11 : wr.cell? ⟨w.heap.size + 1, 1, none⟩ = some (.int .i64 d) := HV.cell (e := (w.heap.size + 1, [.int .i64 c, .int .i64 d])) (by simp) (i := 1) rfl
      have t1 : (k : Int) < 11 := by omega
      have E : Hid (dnA a c (k + 1) = if stp k ≤ c then stp k else dnA a c k) := rfl
      obtain ⟨s, hs0⟩ : ∃ s, s = stp k := ⟨_, rfl⟩
      obtain ⟨m, hm0⟩ : ∃ m, m = dnA a c k := ⟨_, rfl⟩
      rw [← hs0] at hs
      rw [← hm0] at x0
      have E1 : Hid (dnA a c (k + 1) = if s ≤ c then s else m) := by
        have e : dnA a c (k + 1) = if stp k ≤ c then stp k else dnA a c k := E
        rw [← hs0, ← hm0] at e
        exact e
      clear hs0 hm0 E
      by_cases hc : s ≤ c
      · go_wp2_with fail
        go_region
        all_goals (go_wp2_with fail)
        all_goals go_roundw
        all_goals
          have e : dnA a c (k + 1) = if s ≤ c then s else m := E1
          rw [if_pos hc] at e
          first | exact ⟨k + 1, by omega, by go_num, by rw [e]; exact Inv.put0 z2 ⟨x0, x1, xf, HV, hS⟩⟩ | (simp [intOf]; omega)
      · go_wp2_with fail
        go_region
        all_goals (go_wp2_with fail)
        all_goals go_roundw
        all_goals
          have e : dnA a c (k + 1) = if s ≤ c then s else m := E1
          rw [if_neg (by omega)] at e
          first | exact ⟨k + 1, by omega, by go_num, by rw [e]; exact ⟨x0, x1, xf, HV.drew, hS⟩⟩ | (simp [intOf]; omega)
    · obtain rfl : k = 11 := by omega
      rw [show ((11 : Nat) : Int) = (11 : Int) from rfl]
      obtain ⟨x0, x1, xf, HV, hS⟩ := V
      have c00 : wr.cell? ⟨w.heap.size + 1 + 1, 0, none⟩ = some (.int .i64 0) := HV.cell (e := (w.heap.size + 1 + 1, [.int .i64 0, .int .i64 0])) (by simp) (i := 0) rfl
      have c01 : wr.cell? ⟨w.heap.size + 1 + 1, 1, none⟩ = some (.int .i64 0) := HV.cell (e := (w.heap.size + 1 + 1, [.int .i64 0, .int .i64 0])) (by simp) (i := 1) rfl
      have c10 : wr.cell? ⟨w.heap.size + 1, 0, none⟩ = some (.int .i64 c) := HV.cell (e := (w.heap.size + 1, [.int .i64 c, .int .i64 d])) (by simp) (i := 0) rfl
      have c11 : wr.cell? ⟨w.heap.size + 1, 1, none⟩ = some (.int .i64 d) := HV.cell (e := (w.heap.size + 1, [.int .i64 c, .int .i64 d])) (by simp) (i := 1) rfl
      have c20 : wr.cell? ⟨w.heap.size, 0, none⟩ = some (.int .i64 a) := HV.cell (e := (w.heap.size, [.int .i64 a, .int .i64 b])) (by simp) (i := 0) rfl
      have c21 : wr.cell? ⟨w.heap.size, 1, none⟩ = some (.int .i64 b) := HV.cell (e := (w.heap.size, [.int .i64 a, .int .i64 b])) (by simp) (i := 1) rfl
      have f0 : ∀ i, wr.frozen? ⟨w.heap.size + 1 + 1, i, none⟩ = false := HV.free (w.heap.size + 1 + 1, [.int .i64 0, .int .i64 0]) (by simp)
      go_wp2_with fail
      have V3 : Inv w w2.heap.size a b c d (dnA a c 11) (b) _ := ⟨x0, x1, xf, HV, hS⟩
      clear x0 x1 xf HV hS c00 c01 c10 c11 c20 c21 f0
      go_loopw [8] (fun i wr => ∃ k : Nat, k ≤ 11 ∧ i = .int .i64 (10 - (k : Int)) ∧ Inv w w2.heap.size a b c d (dnA a c 11) (upA b d k) wr)
        (fun i _ => (intOf i + 1).toNat)
      case atStart => exact ⟨0, Nat.zero_le _, rfl, V3⟩
      case round =>
        obtain ⟨k, hk, rfl, V⟩ := hrel
        by_cases hlt : k < 11
        · obtain ⟨x0, x1, xf, HV, hS⟩ := V
          have hs := hS (10 - k) (by omega)
          have c10 : wr.cell? ⟨w.heap.size + 1, 0, none⟩ = some (.int .i64 c) := HV.cell (e := (w.heap.size + 1, [.int .i64 c, .int .i64 d])) (by simp) (i := 0) rfl
          have c11 : wr.cell? ⟨w.heap.size + 1, 1, none⟩ = some (.int .i64 d) := HV.cell (e := (w.heap.size + 1, [.int .i64 c, .int .i64 d])) (by simp) (i := 1) rfl
          have t1 : (0 : Int) ≤ 10 - (k : Int) := by omega
          have t2 : (10 - (k : Int)) < 11 := by omega
          have t3 : (10 - (k : Int)).toNat = 10 - k := by omega
          have E : Hid (upA b d (k + 1) = if d ≤ stp (10 - k) then stp (10 - k) else upA b d k) := rfl
          obtain ⟨s, hs0⟩ : ∃ s, s = stp (10 - k) := ⟨_, rfl⟩
          obtain ⟨m, hm0⟩ : ∃ m, m = upA b d k := ⟨_, rfl⟩
          rw [← hs0] at hs
          rw [← hm0] at x1
          have E1 : Hid (upA b d (k + 1) = if d ≤ s then s else m) := by
            have e : upA b d (k + 1) = if d ≤ stp (10 - k) then stp (10 - k) else upA b d k := E
            rw [← hs0, ← hm0] at e
            exact e
          clear hs0 hm0 E
          by_cases hc : d ≤ s
          · go_wp2_with fail
            go_region
            all_goals (go_wp2_with fail)
            all_goals go_roundw
            all_goals
              have e : upA b d (k + 1) = if d ≤ s then s else m := E1
              rw [if_pos hc] at e
              first | exact ⟨k + 1, by omega, by go_num, by rw [e]; exact Inv.put1 z2 ⟨x0, x1, xf, HV, hS⟩⟩ | (simp [intOf]; omega)
          · go_wp2_with fail
            go_region
            all_goals (go_wp2_with fail)
            all_goals go_roundw
            all_goals
              have e : upA b d (k + 1) = if d ≤ s then s else m := E1
              rw [if_neg (by omega)] at e
              first | exact ⟨k + 1, by omega, by go_num, by rw [e]; exact ⟨x0, x1, xf, HV.drew, hS⟩⟩ | (simp [intOf]; omega)
        · obtain rfl : k = 11 := by omega
          obtain ⟨x0, x1, xf, HV, hS⟩ := V
          have c00 : wr.cell? ⟨w.heap.size + 1 + 1, 0, none⟩ = some (.int .i64 0) := HV.cell (e := (w.heap.size + 1 + 1, [.int .i64 0, .int .i64 0])) (by simp) (i := 0) rfl
          have c01 : wr.cell? ⟨w.heap.size + 1 + 1, 1, none⟩ = some (.int .i64 0) := HV.cell (e := (w.heap.size + 1 + 1, [.int .i64 0, .int .i64 0])) (by simp) (i := 1) rfl
          have c10 : wr.cell? ⟨w.heap.size + 1, 0, none⟩ = some (.int .i64 c) := HV.cell (e := (w.heap.size + 1, [.int .i64 c, .int .i64 d])) (by simp) (i := 0) rfl
          have c11 : wr.cell? ⟨w.heap.size + 1, 1, none⟩ = some (.int .i64 d) := HV.cell (e := (w.heap.size + 1, [.int .i64 c, .int .i64 d])) (by simp) (i := 1) rfl
          have c20 : wr.cell? ⟨w.heap.size, 0, none⟩ = some (.int .i64 a) := HV.cell (e := (w.heap.size, [.int .i64 a, .int .i64 b])) (by simp) (i := 0) rfl
          have c21 : wr.cell? ⟨w.heap.size, 1, none⟩ = some (.int .i64 b) := HV.cell (e := (w.heap.size, [.int .i64 a, .int .i64 b])) (by simp) (i := 1) rfl
          have f0 : ∀ i, wr.frozen? ⟨w.heap.size + 1 + 1, i, none⟩ = false := HV.free (w.heap.size + 1 + 1, [.int .i64 0, .int .i64 0]) (by simp)
          go_wp2_with fail
          refine bodyPost_ret (v := .agg #[.int .i64 (dnA a c 11), .int .i64 (upA b d 11)]) (by simp [results, Tryd.results19, go_sem, cell_set, c00, c01]) rfl ⟨rfl, ?_⟩
          repeat (first | exact HV.below | refine Below.drew ?_ | refine Below.setCell ?_ (by simp; try omega) _)

theorem wideS (a b c d : Int) (w : World) :
    Calls Tryd.prog 19 #[.agg #[.int .i64 a, .int .i64 b], .agg #[.int .i64 c, .int .i64 d]] w fun e w' => e = .returned (.agg #[.int .i64 (wideLo a b c d), .int .i64 (wideHi a b c d)]) ∧ Below w.heap.size w w' := by
  cases hab : itvOk a b
  · have k : two a b c d = false := by simp [two, hab]
    rw [wideLo, wideHi, k]
    exact wideS_na _ _ _ _ _ hab
  cases hcd : itvOk c d
  · have k : two a b c d = false := by simp [two, hcd]
    rw [wideLo, wideHi, k]
    exact wideS_nb _ _ _ _ _ hab hcd
  have k : two a b c d = true := by simp [two, hab, hcd]
  have e1 : dnA a c 11 = dnA (-32768) c 11 := dnA_any a c (ok_lo (itvOk_of hcd).1) 10
  have e2 : upA b d 11 = upA 32767 d 11 := upA_any b d (ok_hi (itvOk_of hcd).2.1) 10
  rw [wideLo, wideHi, k]
  by_cases h1 : c < a
  · by_cases h2 : b < d
    · rw [if_pos rfl, if_pos rfl, if_pos h1, if_pos h2, ← e1, ← e2]
      exact wideS_11 _ _ _ _ _ hab hcd h1 h2
    · rw [if_pos rfl, if_pos rfl, if_pos h1, if_neg h2, ← e1]
      exact wideS_10 _ _ _ _ _ hab hcd h1 h2
  · by_cases h2 : b < d
    · rw [if_pos rfl, if_pos rfl, if_neg h1, if_pos h2, ← e2]
      exact wideS_01 _ _ _ _ _ hab hcd h1 h2
    · rw [if_pos rfl, if_pos rfl, if_neg h1, if_neg h2]
      exact wideS_00 _ _ _ _ _ hab hcd h1 h2
end Go.Proofs.YtiehokibfdaleaaDoor
