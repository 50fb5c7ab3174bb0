/- Bounds that grow: the program's (I). Condition: the table of steps holds what its initialiser lays. · Two arrivals taken bounds by bounds by ItvWide. -/
import Derived.Test.YtiehokibfdaleaaDoorG16
import Derived.WalkKit
import Derived.ProofKit
import Derived.OpenShut
import Derived.Below
import Derived.Test.YtiehokibfdaleaaDoorG15
namespace Go.Proofs.YtiehokibfdaleaaDoor
open Go.ChangeShapes Go.WideShapes Go.ChangeAt Go.RowKit

theorem steps_below {w w' : World} (h : StepsIn w) (hb : Below w.heap.size w w') : StepsIn w' := by
  unfold StepsIn Lib.TabIs World.var? at *
  rw [gSteps] at h ⊢
  simp only [Option.bind_some] at h ⊢
  have hlt : 0 < w.heap.size := by
    rcases Nat.lt_or_ge 0 w.heap.size with h' | h'
    · exact h'
    · rw [Array.getElem?_eq_none h'] at h; simp at h
  rw [hb.block _ hlt]
  exact h

set_option maxRecDepth 10000 in
set_option maxHeartbeats 4000000 in
theorem wideI_na (a b c d : Int) (w : World) (hab : itvOk a b = false) :
    Calls Tryd.prog 16 #[.agg #[.int .i64 a, .int .i64 b], .agg #[.int .i64 c, .int .i64 d]] w fun e w' => e = .returned (.agg #[.int .i64 (0), .int .i64 (0)]) ∧ Below w.heap.size w w' := by
  go_enter Tryd.func16, Tryd.ntmps16
  go_wp2_with fail
  refine (itvOkI _ _ _).mono ?_
  rintro e w1 ⟨rfl, hB⟩
  have H1 := HeldL.next hB (held3 w (.int .i64 a) (.int .i64 b) (.int .i64 c) (.int .i64 d) (.int .i64 0) (.int .i64 0) 25)
  have c00 : w1.cell? ⟨w.heap.size + 1 + 1, 0, none⟩ = some (.int .i64 (0)) := H1.cell (e := (w.heap.size + 1 + 1, [.int .i64 (0), .int .i64 (0)])) (by simp) (i := 0) rfl
  have c01 : w1.cell? ⟨w.heap.size + 1 + 1, 1, none⟩ = some (.int .i64 (0)) := H1.cell (e := (w.heap.size + 1 + 1, [.int .i64 (0), .int .i64 (0)])) (by simp) (i := 1) rfl
  have f0 : ∀ i, w1.frozen? ⟨w.heap.size + 1 + 1, i, none⟩ = false := H1.free (w.heap.size + 1 + 1, [.int .i64 (0), .int .i64 (0)]) (by simp)
  have c10 : w1.cell? ⟨w.heap.size + 1, 0, none⟩ = some (.int .i64 (c)) := H1.cell (e := (w.heap.size + 1, [.int .i64 (c), .int .i64 (d)])) (by simp) (i := 0) rfl
  have c11 : w1.cell? ⟨w.heap.size + 1, 1, none⟩ = some (.int .i64 (d)) := H1.cell (e := (w.heap.size + 1, [.int .i64 (c), .int .i64 (d)])) (by simp) (i := 1) rfl
  have c20 : w1.cell? ⟨w.heap.size, 0, none⟩ = some (.int .i64 (a)) := H1.cell (e := (w.heap.size, [.int .i64 (a), .int .i64 (b)])) (by simp) (i := 0) rfl
  have c21 : w1.cell? ⟨w.heap.size, 1, none⟩ = some (.int .i64 (b)) := H1.cell (e := (w.heap.size, [.int .i64 (a), .int .i64 (b)])) (by simp) (i := 1) rfl
  have f2 : ∀ i, w1.frozen? ⟨w.heap.size, i, none⟩ = false := H1.free (w.heap.size, [.int .i64 (a), .int .i64 (b)]) (by simp)
  clear hB
  go_wp2_with fail
  refine bodyPost_ret (v := .agg #[.int .i64 (0), .int .i64 (0)]) (by simp [results, Tryd.results16, go_sem, cell_set, c00, c01]) rfl ⟨rfl, ?_⟩
  repeat (first | exact H1.below | refine Below.drew ?_ | refine Below.setCell ?_ (by simp; try omega) _)

set_option maxRecDepth 10000 in
set_option maxHeartbeats 4000000 in
theorem wideI_nb (a b c d : Int) (w : World) (hab : itvOk a b = true) (hcd : itvOk c d = false) :
    Calls Tryd.prog 16 #[.agg #[.int .i64 a, .int .i64 b], .agg #[.int .i64 c, .int .i64 d]] w fun e w' => e = .returned (.agg #[.int .i64 (0), .int .i64 (0)]) ∧ Below w.heap.size w w' := by
  go_enter Tryd.func16, Tryd.ntmps16
  go_wp2_with fail
  refine (itvOkI _ _ _).mono ?_
  rintro e w1 ⟨rfl, hB⟩
  have H1 := HeldL.next hB (held3 w (.int .i64 a) (.int .i64 b) (.int .i64 c) (.int .i64 d) (.int .i64 0) (.int .i64 0) 25)
  have c00 : w1.cell? ⟨w.heap.size + 1 + 1, 0, none⟩ = some (.int .i64 (0)) := H1.cell (e := (w.heap.size + 1 + 1, [.int .i64 (0), .int .i64 (0)])) (by simp) (i := 0) rfl
  have c01 : w1.cell? ⟨w.heap.size + 1 + 1, 1, none⟩ = some (.int .i64 (0)) := H1.cell (e := (w.heap.size + 1 + 1, [.int .i64 (0), .int .i64 (0)])) (by simp) (i := 1) rfl
  have f0 : ∀ i, w1.frozen? ⟨w.heap.size + 1 + 1, i, none⟩ = false := H1.free (w.heap.size + 1 + 1, [.int .i64 (0), .int .i64 (0)]) (by simp)
  have c10 : w1.cell? ⟨w.heap.size + 1, 0, none⟩ = some (.int .i64 (c)) := H1.cell (e := (w.heap.size + 1, [.int .i64 (c), .int .i64 (d)])) (by simp) (i := 0) rfl
  have c11 : w1.cell? ⟨w.heap.size + 1, 1, none⟩ = some (.int .i64 (d)) := H1.cell (e := (w.heap.size + 1, [.int .i64 (c), .int .i64 (d)])) (by simp) (i := 1) rfl
  have c20 : w1.cell? ⟨w.heap.size, 0, none⟩ = some (.int .i64 (a)) := H1.cell (e := (w.heap.size, [.int .i64 (a), .int .i64 (b)])) (by simp) (i := 0) rfl
  have c21 : w1.cell? ⟨w.heap.size, 1, none⟩ = some (.int .i64 (b)) := H1.cell (e := (w.heap.size, [.int .i64 (a), .int .i64 (b)])) (by simp) (i := 1) rfl
  have f2 : ∀ i, w1.frozen? ⟨w.heap.size, i, none⟩ = false := H1.free (w.heap.size, [.int .i64 (a), .int .i64 (b)]) (by simp)
  clear hB
  go_wp2_with fail
  refine (itvOkI _ _ _).mono ?_
  rintro e w2 ⟨rfl, hB⟩
  have H2 := HeldL.next hB H1
  clear c00 c01 c10 c11 c20 c21 f0 f2
  have c00 : w2.cell? ⟨w.heap.size + 1 + 1, 0, none⟩ = some (.int .i64 (0)) := H2.cell (e := (w.heap.size + 1 + 1, [.int .i64 (0), .int .i64 (0)])) (by simp) (i := 0) rfl
  have c01 : w2.cell? ⟨w.heap.size + 1 + 1, 1, none⟩ = some (.int .i64 (0)) := H2.cell (e := (w.heap.size + 1 + 1, [.int .i64 (0), .int .i64 (0)])) (by simp) (i := 1) rfl
  have f0 : ∀ i, w2.frozen? ⟨w.heap.size + 1 + 1, i, none⟩ = false := H2.free (w.heap.size + 1 + 1, [.int .i64 (0), .int .i64 (0)]) (by simp)
  have c10 : w2.cell? ⟨w.heap.size + 1, 0, none⟩ = some (.int .i64 (c)) := H2.cell (e := (w.heap.size + 1, [.int .i64 (c), .int .i64 (d)])) (by simp) (i := 0) rfl
  have c11 : w2.cell? ⟨w.heap.size + 1, 1, none⟩ = some (.int .i64 (d)) := H2.cell (e := (w.heap.size + 1, [.int .i64 (c), .int .i64 (d)])) (by simp) (i := 1) rfl
  have c20 : w2.cell? ⟨w.heap.size, 0, none⟩ = some (.int .i64 (a)) := H2.cell (e := (w.heap.size, [.int .i64 (a), .int .i64 (b)])) (by simp) (i := 0) rfl
  have c21 : w2.cell? ⟨w.heap.size, 1, none⟩ = some (.int .i64 (b)) := H2.cell (e := (w.heap.size, [.int .i64 (a), .int .i64 (b)])) (by simp) (i := 1) rfl
  have f2 : ∀ i, w2.frozen? ⟨w.heap.size, i, none⟩ = false := H2.free (w.heap.size, [.int .i64 (a), .int .i64 (b)]) (by simp)
  clear hB
  go_wp2_with fail
  refine bodyPost_ret (v := .agg #[.int .i64 (0), .int .i64 (0)]) (by simp [results, Tryd.results16, go_sem, cell_set, c00, c01]) rfl ⟨rfl, ?_⟩
  repeat (first | exact H2.below | refine Below.drew ?_ | refine Below.setCell ?_ (by simp; try omega) _)

set_option maxRecDepth 10000 in
set_option maxHeartbeats 4000000 in
theorem wideI_00 (a b c d : Int) (w : World) (hab : itvOk a b = true) (hcd : itvOk c d = true) (h1 : ¬ c < a) (h2 : ¬ b < d) :
    Calls Tryd.prog 16 #[.agg #[.int .i64 a, .int .i64 b], .agg #[.int .i64 c, .int .i64 d]] w fun e w' => e = .returned (.agg #[.int .i64 (a), .int .i64 (b)]) ∧ Below w.heap.size w w' := by
  go_enter Tryd.func16, Tryd.ntmps16
  go_wp2_with fail
  refine (itvOkI _ _ _).mono ?_
  rintro e w1 ⟨rfl, hB⟩
  have H1 := HeldL.next hB (held3 w (.int .i64 a) (.int .i64 b) (.int .i64 c) (.int .i64 d) (.int .i64 0) (.int .i64 0) 25)
  have c00 : w1.cell? ⟨w.heap.size + 1 + 1, 0, none⟩ = some (.int .i64 (0)) := H1.cell (e := (w.heap.size + 1 + 1, [.int .i64 (0), .int .i64 (0)])) (by simp) (i := 0) rfl
  have c01 : w1.cell? ⟨w.heap.size + 1 + 1, 1, none⟩ = some (.int .i64 (0)) := H1.cell (e := (w.heap.size + 1 + 1, [.int .i64 (0), .int .i64 (0)])) (by simp) (i := 1) rfl
  have f0 : ∀ i, w1.frozen? ⟨w.heap.size + 1 + 1, i, none⟩ = false := H1.free (w.heap.size + 1 + 1, [.int .i64 (0), .int .i64 (0)]) (by simp)
  have c10 : w1.cell? ⟨w.heap.size + 1, 0, none⟩ = some (.int .i64 (c)) := H1.cell (e := (w.heap.size + 1, [.int .i64 (c), .int .i64 (d)])) (by simp) (i := 0) rfl
  have c11 : w1.cell? ⟨w.heap.size + 1, 1, none⟩ = some (.int .i64 (d)) := H1.cell (e := (w.heap.size + 1, [.int .i64 (c), .int .i64 (d)])) (by simp) (i := 1) rfl
  have c20 : w1.cell? ⟨w.heap.size, 0, none⟩ = some (.int .i64 (a)) := H1.cell (e := (w.heap.size, [.int .i64 (a), .int .i64 (b)])) (by simp) (i := 0) rfl
  have c21 : w1.cell? ⟨w.heap.size, 1, none⟩ = some (.int .i64 (b)) := H1.cell (e := (w.heap.size, [.int .i64 (a), .int .i64 (b)])) (by simp) (i := 1) rfl
  have f2 : ∀ i, w1.frozen? ⟨w.heap.size, i, none⟩ = false := H1.free (w.heap.size, [.int .i64 (a), .int .i64 (b)]) (by simp)
  clear hB
  go_wp2_with fail
  refine (itvOkI _ _ _).mono ?_
  rintro e w2 ⟨rfl, hB⟩
  have H2 := HeldL.next hB H1
  clear c00 c01 c10 c11 c20 c21 f0 f2
  have c00 : w2.cell? ⟨w.heap.size + 1 + 1, 0, none⟩ = some (.int .i64 (0)) := H2.cell (e := (w.heap.size + 1 + 1, [.int .i64 (0), .int .i64 (0)])) (by simp) (i := 0) rfl
  have c01 : w2.cell? ⟨w.heap.size + 1 + 1, 1, none⟩ = some (.int .i64 (0)) := H2.cell (e := (w.heap.size + 1 + 1, [.int .i64 (0), .int .i64 (0)])) (by simp) (i := 1) rfl
  have f0 : ∀ i, w2.frozen? ⟨w.heap.size + 1 + 1, i, none⟩ = false := H2.free (w.heap.size + 1 + 1, [.int .i64 (0), .int .i64 (0)]) (by simp)
  have c10 : w2.cell? ⟨w.heap.size + 1, 0, none⟩ = some (.int .i64 (c)) := H2.cell (e := (w.heap.size + 1, [.int .i64 (c), .int .i64 (d)])) (by simp) (i := 0) rfl
  have c11 : w2.cell? ⟨w.heap.size + 1, 1, none⟩ = some (.int .i64 (d)) := H2.cell (e := (w.heap.size + 1, [.int .i64 (c), .int .i64 (d)])) (by simp) (i := 1) rfl
  have c20 : w2.cell? ⟨w.heap.size, 0, none⟩ = some (.int .i64 (a)) := H2.cell (e := (w.heap.size, [.int .i64 (a), .int .i64 (b)])) (by simp) (i := 0) rfl
  have c21 : w2.cell? ⟨w.heap.size, 1, none⟩ = some (.int .i64 (b)) := H2.cell (e := (w.heap.size, [.int .i64 (a), .int .i64 (b)])) (by simp) (i := 1) rfl
  have f2 : ∀ i, w2.frozen? ⟨w.heap.size, i, none⟩ = false := H2.free (w.heap.size, [.int .i64 (a), .int .i64 (b)]) (by simp)
  clear hB
  go_wp2_with fail
  refine bodyPost_ret (v := .agg #[.int .i64 (a), .int .i64 (b)]) (by simp [results, Tryd.results16, go_sem, cell_set, c00, c01]) rfl ⟨rfl, ?_⟩
  repeat (first | exact H2.below | refine Below.drew ?_ | refine Below.setCell ?_ (by simp; try omega) _)

set_option maxRecDepth 10000 in
set_option maxHeartbeats 4000000 in
theorem wideI_10 (a b c d : Int) (w : World) (hst : StepsIn w) (hab : itvOk a b = true) (hcd : itvOk c d = true) (h1 : c < a) (h2 : ¬ b < d) :
    Calls Tryd.prog 16 #[.agg #[.int .i64 a, .int .i64 b], .agg #[.int .i64 c, .int .i64 d]] w fun e w' => e = .returned (.agg #[.int .i64 (dnA (-32768) c 11), .int .i64 (b)]) ∧ Below w.heap.size w w' := by
  go_enter Tryd.func16, Tryd.ntmps16
  go_wp2_with fail
  refine (itvOkI _ _ _).mono ?_
  rintro e w1 ⟨rfl, hB⟩
  have H1 := HeldL.next hB (held3 w (.int .i64 a) (.int .i64 b) (.int .i64 c) (.int .i64 d) (.int .i64 0) (.int .i64 0) 25)
  have c00 : w1.cell? ⟨w.heap.size + 1 + 1, 0, none⟩ = some (.int .i64 (0)) := H1.cell (e := (w.heap.size + 1 + 1, [.int .i64 (0), .int .i64 (0)])) (by simp) (i := 0) rfl
  have c01 : w1.cell? ⟨w.heap.size + 1 + 1, 1, none⟩ = some (.int .i64 (0)) := H1.cell (e := (w.heap.size + 1 + 1, [.int .i64 (0), .int .i64 (0)])) (by simp) (i := 1) rfl
  have f0 : ∀ i, w1.frozen? ⟨w.heap.size + 1 + 1, i, none⟩ = false := H1.free (w.heap.size + 1 + 1, [.int .i64 (0), .int .i64 (0)]) (by simp)
  have c10 : w1.cell? ⟨w.heap.size + 1, 0, none⟩ = some (.int .i64 (c)) := H1.cell (e := (w.heap.size + 1, [.int .i64 (c), .int .i64 (d)])) (by simp) (i := 0) rfl
  have c11 : w1.cell? ⟨w.heap.size + 1, 1, none⟩ = some (.int .i64 (d)) := H1.cell (e := (w.heap.size + 1, [.int .i64 (c), .int .i64 (d)])) (by simp) (i := 1) rfl
  have c20 : w1.cell? ⟨w.heap.size, 0, none⟩ = some (.int .i64 (a)) := H1.cell (e := (w.heap.size, [.int .i64 (a), .int .i64 (b)])) (by simp) (i := 0) rfl
  have c21 : w1.cell? ⟨w.heap.size, 1, none⟩ = some (.int .i64 (b)) := H1.cell (e := (w.heap.size, [.int .i64 (a), .int .i64 (b)])) (by simp) (i := 1) rfl
  have f2 : ∀ i, w1.frozen? ⟨w.heap.size, i, none⟩ = false := H1.free (w.heap.size, [.int .i64 (a), .int .i64 (b)]) (by simp)
  clear hB
  go_wp2_with fail
  refine (itvOkI _ _ _).mono ?_
  rintro e w2 ⟨rfl, hB⟩
  have H2 := HeldL.next hB H1
  clear c00 c01 c10 c11 c20 c21 f0 f2
  have c00 : w2.cell? ⟨w.heap.size + 1 + 1, 0, none⟩ = some (.int .i64 (0)) := H2.cell (e := (w.heap.size + 1 + 1, [.int .i64 (0), .int .i64 (0)])) (by simp) (i := 0) rfl
  have c01 : w2.cell? ⟨w.heap.size + 1 + 1, 1, none⟩ = some (.int .i64 (0)) := H2.cell (e := (w.heap.size + 1 + 1, [.int .i64 (0), .int .i64 (0)])) (by simp) (i := 1) rfl
  have f0 : ∀ i, w2.frozen? ⟨w.heap.size + 1 + 1, i, none⟩ = false := H2.free (w.heap.size + 1 + 1, [.int .i64 (0), .int .i64 (0)]) (by simp)
  have c10 : w2.cell? ⟨w.heap.size + 1, 0, none⟩ = some (.int .i64 (c)) := H2.cell (e := (w.heap.size + 1, [.int .i64 (c), .int .i64 (d)])) (by simp) (i := 0) rfl
  have c11 : w2.cell? ⟨w.heap.size + 1, 1, none⟩ = some (.int .i64 (d)) := H2.cell (e := (w.heap.size + 1, [.int .i64 (c), .int .i64 (d)])) (by simp) (i := 1) rfl
  have c20 : w2.cell? ⟨w.heap.size, 0, none⟩ = some (.int .i64 (a)) := H2.cell (e := (w.heap.size, [.int .i64 (a), .int .i64 (b)])) (by simp) (i := 0) rfl
  have c21 : w2.cell? ⟨w.heap.size, 1, none⟩ = some (.int .i64 (b)) := H2.cell (e := (w.heap.size, [.int .i64 (a), .int .i64 (b)])) (by simp) (i := 1) rfl
  have f2 : ∀ i, w2.frozen? ⟨w.heap.size, i, none⟩ = false := H2.free (w.heap.size, [.int .i64 (a), .int .i64 (b)]) (by simp)
  clear hB
  go_wp2_with (go_at_call 30; refine (belowI _ _ (steps_below hst H2.below)).mono ?_; rintro e w' ⟨rfl, rfl⟩)
  refine bodyPost_ret (v := .agg #[.int .i64 (dnA (-32768) c 11), .int .i64 (b)]) (by simp [results, Tryd.results16, go_sem, cell_set, c00, c01]) rfl ⟨rfl, ?_⟩
  repeat (first | exact H2.below | refine Below.drew ?_ | refine Below.setCell ?_ (by simp; try omega) _)

set_option maxRecDepth 10000 in
set_option maxHeartbeats 4000000 in
theorem wideI_01 (a b c d : Int) (w : World) (hst : StepsIn w) (hab : itvOk a b = true) (hcd : itvOk c d = true) (h1 : ¬ c < a) (h2 : b < d) :
    Calls Tryd.prog 16 #[.agg #[.int .i64 a, .int .i64 b], .agg #[.int .i64 c, .int .i64 d]] w fun e w' => e = .returned (.agg #[.int .i64 (a), .int .i64 (upA 32767 d 11)]) ∧ Below w.heap.size w w' := by
  go_enter Tryd.func16, Tryd.ntmps16
  go_wp2_with fail
  refine (itvOkI _ _ _).mono ?_
  rintro e w1 ⟨rfl, hB⟩
  have H1 := HeldL.next hB (held3 w (.int .i64 a) (.int .i64 b) (.int .i64 c) (.int .i64 d) (.int .i64 0) (.int .i64 0) 25)
  have c00 : w1.cell? ⟨w.heap.size + 1 + 1, 0, none⟩ = some (.int .i64 (0)) := H1.cell (e := (w.heap.size + 1 + 1, [.int .i64 (0), .int .i64 (0)])) (by simp) (i := 0) rfl
  have c01 : w1.cell? ⟨w.heap.size + 1 + 1, 1, none⟩ = some (.int .i64 (0)) := H1.cell (e := (w.heap.size + 1 + 1, [.int .i64 (0), .int .i64 (0)])) (by simp) (i := 1) rfl
  have f0 : ∀ i, w1.frozen? ⟨w.heap.size + 1 + 1, i, none⟩ = false := H1.free (w.heap.size + 1 + 1, [.int .i64 (0), .int .i64 (0)]) (by simp)
  have c10 : w1.cell? ⟨w.heap.size + 1, 0, none⟩ = some (.int .i64 (c)) := H1.cell (e := (w.heap.size + 1, [.int .i64 (c), .int .i64 (d)])) (by simp) (i := 0) rfl
  have c11 : w1.cell? ⟨w.heap.size + 1, 1, none⟩ = some (.int .i64 (d)) := H1.cell (e := (w.heap.size + 1, [.int .i64 (c), .int .i64 (d)])) (by simp) (i := 1) rfl
  have c20 : w1.cell? ⟨w.heap.size, 0, none⟩ = some (.int .i64 (a)) := H1.cell (e := (w.heap.size, [.int .i64 (a), .int .i64 (b)])) (by simp) (i := 0) rfl
  have c21 : w1.cell? ⟨w.heap.size, 1, none⟩ = some (.int .i64 (b)) := H1.cell (e := (w.heap.size, [.int .i64 (a), .int .i64 (b)])) (by simp) (i := 1) rfl
  have f2 : ∀ i, w1.frozen? ⟨w.heap.size, i, none⟩ = false := H1.free (w.heap.size, [.int .i64 (a), .int .i64 (b)]) (by simp)
  clear hB
  go_wp2_with fail
  refine (itvOkI _ _ _).mono ?_
  rintro e w2 ⟨rfl, hB⟩
  have H2 := HeldL.next hB H1
  clear c00 c01 c10 c11 c20 c21 f0 f2
  have c00 : w2.cell? ⟨w.heap.size + 1 + 1, 0, none⟩ = some (.int .i64 (0)) := H2.cell (e := (w.heap.size + 1 + 1, [.int .i64 (0), .int .i64 (0)])) (by simp) (i := 0) rfl
  have c01 : w2.cell? ⟨w.heap.size + 1 + 1, 1, none⟩ = some (.int .i64 (0)) := H2.cell (e := (w.heap.size + 1 + 1, [.int .i64 (0), .int .i64 (0)])) (by simp) (i := 1) rfl
  have f0 : ∀ i, w2.frozen? ⟨w.heap.size + 1 + 1, i, none⟩ = false := H2.free (w.heap.size + 1 + 1, [.int .i64 (0), .int .i64 (0)]) (by simp)
  have c10 : w2.cell? ⟨w.heap.size + 1, 0, none⟩ = some (.int .i64 (c)) := H2.cell (e := (w.heap.size + 1, [.int .i64 (c), .int .i64 (d)])) (by simp) (i := 0) rfl
  have c11 : w2.cell? ⟨w.heap.size + 1, 1, none⟩ = some (.int .i64 (d)) := H2.cell (e := (w.heap.size + 1, [.int .i64 (c), .int .i64 (d)])) (by simp) (i := 1) rfl
  have c20 : w2.cell? ⟨w.heap.size, 0, none⟩ = some (.int .i64 (a)) := H2.cell (e := (w.heap.size, [.int .i64 (a), .int .i64 (b)])) (by simp) (i := 0) rfl
  have c21 : w2.cell? ⟨w.heap.size, 1, none⟩ = some (.int .i64 (b)) := H2.cell (e := (w.heap.size, [.int .i64 (a), .int .i64 (b)])) (by simp) (i := 1) rfl
  have f2 : ∀ i, w2.frozen? ⟨w.heap.size, i, none⟩ = false := H2.free (w.heap.size, [.int .i64 (a), .int .i64 (b)]) (by simp)
  clear hB
  go_wp2_with (go_at_call 31; refine (aboveI _ _ (steps_below hst H2.below)).mono ?_; rintro e w' ⟨rfl, rfl⟩)
  refine bodyPost_ret (v := .agg #[.int .i64 (a), .int .i64 (upA 32767 d 11)]) (by simp [results, Tryd.results16, go_sem, cell_set, c00, c01]) rfl ⟨rfl, ?_⟩
  repeat (first | exact H2.below | refine Below.drew ?_ | refine Below.setCell ?_ (by simp; try omega) _)

set_option maxRecDepth 10000 in
set_option maxHeartbeats 4000000 in
theorem wideI_11 (a b c d : Int) (w : World) (hst : StepsIn w) (hab : itvOk a b = true) (hcd : itvOk c d = true) (h1 : c < a) (h2 : b < d) :
    Calls Tryd.prog 16 #[.agg #[.int .i64 a, .int .i64 b], .agg #[.int .i64 c, .int .i64 d]] w fun e w' => e = .returned (.agg #[.int .i64 (dnA (-32768) c 11), .int .i64 (upA 32767 d 11)]) ∧ Below w.heap.size w w' := by
  go_enter Tryd.func16, Tryd.ntmps16
  go_wp2_with fail
  refine (itvOkI _ _ _).mono ?_
  rintro e w1 ⟨rfl, hB⟩
  have H1 := HeldL.next hB (held3 w (.int .i64 a) (.int .i64 b) (.int .i64 c) (.int .i64 d) (.int .i64 0) (.int .i64 0) 25)
  have c00 : w1.cell? ⟨w.heap.size + 1 + 1, 0, none⟩ = some (.int .i64 (0)) := H1.cell (e := (w.heap.size + 1 + 1, [.int .i64 (0), .int .i64 (0)])) (by simp) (i := 0) rfl
  have c01 : w1.cell? ⟨w.heap.size + 1 + 1, 1, none⟩ = some (.int .i64 (0)) := H1.cell (e := (w.heap.size + 1 + 1, [.int .i64 (0), .int .i64 (0)])) (by simp) (i := 1) rfl
  have f0 : ∀ i, w1.frozen? ⟨w.heap.size + 1 + 1, i, none⟩ = false := H1.free (w.heap.size + 1 + 1, [.int .i64 (0), .int .i64 (0)]) (by simp)
  have c10 : w1.cell? ⟨w.heap.size + 1, 0, none⟩ = some (.int .i64 (c)) := H1.cell (e := (w.heap.size + 1, [.int .i64 (c), .int .i64 (d)])) (by simp) (i := 0) rfl
  have c11 : w1.cell? ⟨w.heap.size + 1, 1, none⟩ = some (.int .i64 (d)) := H1.cell (e := (w.heap.size + 1, [.int .i64 (c), .int .i64 (d)])) (by simp) (i := 1) rfl
  have c20 : w1.cell? ⟨w.heap.size, 0, none⟩ = some (.int .i64 (a)) := H1.cell (e := (w.heap.size, [.int .i64 (a), .int .i64 (b)])) (by simp) (i := 0) rfl
  have c21 : w1.cell? ⟨w.heap.size, 1, none⟩ = some (.int .i64 (b)) := H1.cell (e := (w.heap.size, [.int .i64 (a), .int .i64 (b)])) (by simp) (i := 1) rfl
  have f2 : ∀ i, w1.frozen? ⟨w.heap.size, i, none⟩ = false := H1.free (w.heap.size, [.int .i64 (a), .int .i64 (b)]) (by simp)
  clear hB
  go_wp2_with fail
  refine (itvOkI _ _ _).mono ?_
  rintro e w2 ⟨rfl, hB⟩
  have H2 := HeldL.next hB H1
  clear c00 c01 c10 c11 c20 c21 f0 f2
  have c00 : w2.cell? ⟨w.heap.size + 1 + 1, 0, none⟩ = some (.int .i64 (0)) := H2.cell (e := (w.heap.size + 1 + 1, [.int .i64 (0), .int .i64 (0)])) (by simp) (i := 0) rfl
  have c01 : w2.cell? ⟨w.heap.size + 1 + 1, 1, none⟩ = some (.int .i64 (0)) := H2.cell (e := (w.heap.size + 1 + 1, [.int .i64 (0), .int .i64 (0)])) (by simp) (i := 1) rfl
  have f0 : ∀ i, w2.frozen? ⟨w.heap.size + 1 + 1, i, none⟩ = false := H2.free (w.heap.size + 1 + 1, [.int .i64 (0), .int .i64 (0)]) (by simp)
  have c10 : w2.cell? ⟨w.heap.size + 1, 0, none⟩ = some (.int .i64 (c)) := H2.cell (e := (w.heap.size + 1, [.int .i64 (c), .int .i64 (d)])) (by simp) (i := 0) rfl
  have c11 : w2.cell? ⟨w.heap.size + 1, 1, none⟩ = some (.int .i64 (d)) := H2.cell (e := (w.heap.size + 1, [.int .i64 (c), .int .i64 (d)])) (by simp) (i := 1) rfl
  have c20 : w2.cell? ⟨w.heap.size, 0, none⟩ = some (.int .i64 (a)) := H2.cell (e := (w.heap.size, [.int .i64 (a), .int .i64 (b)])) (by simp) (i := 0) rfl
  have c21 : w2.cell? ⟨w.heap.size, 1, none⟩ = some (.int .i64 (b)) := H2.cell (e := (w.heap.size, [.int .i64 (a), .int .i64 (b)])) (by simp) (i := 1) rfl
  have f2 : ∀ i, w2.frozen? ⟨w.heap.size, i, none⟩ = false := H2.free (w.heap.size, [.int .i64 (a), .int .i64 (b)]) (by simp)
  clear hB
  go_wp2_with (first | (go_at_call 30; refine (belowI _ _ (steps_below hst H2.below)).mono ?_; rintro e w' ⟨rfl, rfl⟩) | (go_at_call 31; refine (aboveI _ _ (steps_below hst (H2.below.setCell (Nat.le_refl _) _))).mono ?_; rintro e w' ⟨rfl, rfl⟩))
  refine bodyPost_ret (v := .agg #[.int .i64 (dnA (-32768) c 11), .int .i64 (upA 32767 d 11)]) (by simp [results, Tryd.results16, go_sem, cell_set, c00, c01]) rfl ⟨rfl, ?_⟩
  repeat (first | exact H2.below | refine Below.drew ?_ | refine Below.setCell ?_ (by simp; try omega) _)

theorem wideI (a b c d : Int) (w : World) (hst : StepsIn w) :
    Calls Tryd.prog 16 #[.agg #[.int .i64 a, .int .i64 b], .agg #[.int .i64 c, .int .i64 d]] w fun e w' => e = .returned (.agg #[.int .i64 (wideLo a b c d), .int .i64 (wideHi a b c d)]) ∧ Below w.heap.size w w' := by
  cases hab : itvOk a b
  · have k : two a b c d = false := by simp [two, hab]
    rw [wideLo, wideHi, k]
    exact wideI_na _ _ _ _ _ hab
  cases hcd : itvOk c d
  · have k : two a b c d = false := by simp [two, hcd]
    rw [wideLo, wideHi, k]
    exact wideI_nb _ _ _ _ _ hab hcd
  have k : two a b c d = true := by simp [two, hab, hcd]
  rw [wideLo, wideHi, k]
  by_cases h1 : c < a
  · by_cases h2 : b < d
    · rw [if_pos rfl, if_pos rfl, if_pos h1, if_pos h2]
      exact wideI_11 _ _ _ _ _ hst hab hcd h1 h2
    · rw [if_pos rfl, if_pos rfl, if_pos h1, if_neg h2]
      exact wideI_10 _ _ _ _ _ hst hab hcd h1 h2
  · by_cases h2 : b < d
    · rw [if_pos rfl, if_pos rfl, if_neg h1, if_pos h2]
      exact wideI_01 _ _ _ _ _ hst hab hcd h1 h2
    · rw [if_pos rfl, if_pos rfl, if_neg h1, if_neg h2]
      exact wideI_00 _ _ _ _ _ hab hcd h1 h2
end Go.Proofs.YtiehokibfdaleaaDoor
namespace Go.Proofs.YtiehokibfdaleaaDoor
open Go.ChangeShapes Go.WideShapes Go.ChangeAt Go.RowKit
set_option linter.unusedVariables false
theorem Once.below {j : Nat} {w : World} {L0 L1 : List (Nat × List Value)} {L : Nat → Bool} {W : World} (h : Once j w L0 L1 L W) : Below w.heap.size w W := by
  cases e : L j
  · exact (h.1 e).below
  · exact (h.2 e).below
set_option maxRecDepth 10000 in
set_option maxHeartbeats 16000000 in
theorem beside_wide (l h l' h' : Nat → Int) (w : World) (hst : StepsIn w) :
    Calls Tryd.prog 15 #[.agg #[.bool true, .int .i64 (l 0), .int .i64 (h 0), .int .i64 (l 1), .int .i64 (h 1), .int .i64 (l 2), .int .i64 (h 2), .int .i64 (l 3), .int .i64 (h 3), .int .i64 (l 4), .int .i64 (h 4)], .agg #[.bool true, .int .i64 (l' 0), .int .i64 (h' 0), .int .i64 (l' 1), .int .i64 (h' 1), .int .i64 (l' 2), .int .i64 (h' 2), .int .i64 (l' 3), .int .i64 (h' 3), .int .i64 (l' 4), .int .i64 (h' 4)], .func (.func 16) #[] #[]] w fun e w' => e = .returned (.agg #[.bool true, .int .i64 ((fun k => wideLo (l k) (h k) (l' k) (h' k)) 0), .int .i64 ((fun k => wideHi (l k) (h k) (l' k) (h' k)) 0), .int .i64 ((fun k => wideLo (l k) (h k) (l' k) (h' k)) 1), .int .i64 ((fun k => wideHi (l k) (h k) (l' k) (h' k)) 1), .int .i64 ((fun k => wideLo (l k) (h k) (l' k) (h' k)) 2), .int .i64 ((fun k => wideHi (l k) (h k) (l' k) (h' k)) 2), .int .i64 ((fun k => wideLo (l k) (h k) (l' k) (h' k)) 3), .int .i64 ((fun k => wideHi (l k) (h k) (l' k) (h' k)) 3), .int .i64 ((fun k => wideLo (l k) (h k) (l' k) (h' k)) 4), .int .i64 ((fun k => wideHi (l k) (h k) (l' k) (h' k)) 4)]) ∧ Below w.heap.size w w' := by
  have hf := fun a b c d (W : World) (hW : Below w.heap.size w W) => wideI a b c d W (steps_below hst hW)
  obtain ⟨F, hF⟩ : ∃ F : Nat → Int, (fun k => wideLo (l k) (h k) (l' k) (h' k)) = F := ⟨_, rfl⟩
  obtain ⟨G, hG⟩ : ∃ G : Nat → Int, (fun k => wideHi (l k) (h k) (l' k) (h' k)) = G := ⟨_, rfl⟩
  have hFk : ∀ k, wideLo (l k) (h k) (l' k) (h' k) = F k := fun k => congrFun hF k
  have hGk : ∀ k, wideHi (l k) (h k) (l' k) (h' k) = G k := fun k => congrFun hG k
  rw [hF, hG]
  replace hf : ∀ k (W : World), Below w.heap.size w W → Calls Tryd.prog 16 #[.agg #[.int .i64 (l k), .int .i64 (h k)], .agg #[.int .i64 (l' k), .int .i64 (h' k)]] W fun e w' => e = .returned (.agg #[.int .i64 (F k), .int .i64 (G k)]) ∧ Below W.heap.size W w' := fun k W hW => by
    have := hf (l k) (h k) (l' k) (h' k) W hW
    rwa [hFk, hGk] at this
  clear hFk hGk hF hG
  have H : HeldL w ((w.heap.size, arrL true (mixF 0 F l) (mixF 0 G h)) :: [(w.heap.size + 1 + 1, [Value.bool false, .int .i64 0, .int .i64 0, .int .i64 0, .int .i64 0, .int .i64 0, .int .i64 0, .int .i64 0, .int .i64 0, .int .i64 0, .int .i64 0]), (w.heap.size + 1, arrL true l' h')]) (((w.alloc (.cells #[.bool true, .int .i64 (l 0), .int .i64 (h 0), .int .i64 (l 1), .int .i64 (h 1), .int .i64 (l 2), .int .i64 (h 2), .int .i64 (l 3), .int .i64 (h 3), .int .i64 (l 4), .int .i64 (h 4)] 37)).alloc (.cells #[.bool true, .int .i64 (l' 0), .int .i64 (h' 0), .int .i64 (l' 1), .int .i64 (h' 1), .int .i64 (l' 2), .int .i64 (h' 2), .int .i64 (l' 3), .int .i64 (h' 3), .int .i64 (l' 4), .int .i64 (h' 4)] 37)).alloc (.cells #[.bool false, .int .i64 0, .int .i64 0, .int .i64 0, .int .i64 0, .int .i64 0, .int .i64 0, .int .i64 0, .int .i64 0, .int .i64 0, .int .i64 0] 37)) := by
    have e1 : w.heap.size + 1 = (w.alloc (.cells #[.bool true, .int .i64 (l 0), .int .i64 (h 0), .int .i64 (l 1), .int .i64 (h 1), .int .i64 (l 2), .int .i64 (h 2), .int .i64 (l 3), .int .i64 (h 3), .int .i64 (l 4), .int .i64 (h 4)] 37)).heap.size := by simp
    have e2 : w.heap.size + 1 + 1 = ((w.alloc (.cells #[.bool true, .int .i64 (l 0), .int .i64 (h 0), .int .i64 (l 1), .int .i64 (h 1), .int .i64 (l 2), .int .i64 (h 2), .int .i64 (l 3), .int .i64 (h 3), .int .i64 (l 4), .int .i64 (h 4)] 37)).alloc (.cells #[.bool true, .int .i64 (l' 0), .int .i64 (h' 0), .int .i64 (l' 1), .int .i64 (h' 1), .int .i64 (l' 2), .int .i64 (h' 2), .int .i64 (l' 3), .int .i64 (h' 3), .int .i64 (l' 4), .int .i64 (h' 4)] 37)).heap.size := by simp
    rw [e2, e1]
    refine HeldL.sub ?_ (HeldL.newL (vs := [Value.bool false, .int .i64 0, .int .i64 0, .int .i64 0, .int .i64 0, .int .i64 0, .int .i64 0, .int .i64 0, .int .i64 0, .int .i64 0, .int .i64 0]) (HeldL.newL (vs := [Value.bool true, .int .i64 (l' 0), .int .i64 (h' 0), .int .i64 (l' 1), .int .i64 (h' 1), .int .i64 (l' 2), .int .i64 (h' 2), .int .i64 (l' 3), .int .i64 (h' 3), .int .i64 (l' 4), .int .i64 (h' 4)]) (HeldL.newL (vs := [Value.bool true, .int .i64 (l 0), .int .i64 (h 0), .int .i64 (l 1), .int .i64 (h 1), .int .i64 (l 2), .int .i64 (h 2), .int .i64 (l 3), .int .i64 (h 3), .int .i64 (l 4), .int .i64 (h 4)]) (HeldL.nil w))))
    intro e he
    simp only [List.mem_cons, List.not_mem_nil, or_false] at he ⊢
    rcases he with rfl | rfl | rfl <;> simp [arrL, mixF]
  obtain ⟨Lr, hLr⟩ : ∃ L, L = [(w.heap.size + 1 + 1, [Value.bool false, .int .i64 0, .int .i64 0, .int .i64 0, .int .i64 0, .int .i64 0, .int .i64 0, .int .i64 0, .int .i64 0, .int .i64 0, .int .i64 0]), (w.heap.size + 1, arrL true l' h')] := ⟨_, rfl⟩
  have ne0 : ∀ e ∈ Lr, e.1 ≠ w.heap.size := by rw [hLr]; intro e he; simp at he; rcases he with rfl | rfl <;> dsimp only <;> omega
  have mB : (w.heap.size + 1, arrL true l' h') ∈ Lr := by rw [hLr]; simp
  have mZ : (w.heap.size + 1 + 1, [Value.bool false, .int .i64 0, .int .i64 0, .int .i64 0, .int .i64 0, .int .i64 0, .int .i64 0, .int .i64 0, .int .i64 0, .int .i64 0, .int .i64 0]) ∈ Lr := by rw [hLr]; simp
  rw [← hLr] at H
  clear hLr
  obtain ⟨fv, hfv⟩ : ∃ v, v = Value.func (.func 16) #[] #[] := ⟨_, rfl⟩
  rw [← hfv]
  have hfvS : Hid (fv = Value.func (.func 16) #[] #[]) := hfv
  clear hfv
  go_enter Tryd.func15, Tryd.ntmps15
  go_wp2_with fail
  go_loopw [16] (fun i wr => ∃ k : Nat, k ≤ 5 ∧ i = .int .i64 k ∧ HeldL w ((w.heap.size, arrL true (mixF k F l) (mixF k G h)) :: Lr) wr) (fun i _ => 5 - (intOf i).toNat)
  case atStart => exact ⟨0, Nat.zero_le _, rfl, H⟩
  case round =>
    clear H
    obtain ⟨k, hk, rfl, H⟩ := hrel
    by_cases hlt : k < 5
    · have t1 : ((k : Int)).toNat = k := by omega
      have t2 : (0 : Int) ≤ (k : Int) := by omega
      have t3 : (k : Int) < 5 := by omega
      have hS0 : BesS w ((w.heap.size, arrL true (mixF k F l) (mixF k G h)) :: Lr) ((w.heap.size, arrL true (mixF (k + 1) F l) (mixF (k + 1) G h)) :: Lr) (fun _ => false) wr.drew := ⟨(fun e => by cases e), (fun e => by cases e), Once.start H.drew⟩
      clear H
      go_wp2_with fail
      refine region_inv3 [(0, 19), (1, 20), (2, 21), (3, 22), (4, 23), (5, 24), (6, 25), (7, 26), (8, 27), (9, 28), (10, 29), (11, 30), (12, 31)]
        (fun j v _ => match j with
          | 0 => Is (.int .i64 k) v
          | 1 => Is (fv) v
          | 2 => Is (.int .i64 k) v
          | 3 => Is (.pointer (some ⟨w.heap.size, 1, none⟩)) v
          | 4 => Is (.pointer (some ⟨w.heap.size, 1 + k * 2, none⟩)) v
          | 5 => Is (.agg #[.int .i64 (l k), .int .i64 (h k)]) v
          | 6 => Is (.int .i64 k) v
          | 7 => Is (.pointer (some ⟨w.heap.size + 1, 1, none⟩)) v
          | 8 => Is (.pointer (some ⟨w.heap.size + 1, 1 + k * 2, none⟩)) v
          | 9 => Is (.agg #[.int .i64 (l' k), .int .i64 (h' k)]) v
          | 10 => Is (.agg #[.int .i64 (F k), .int .i64 (G k)]) v
          | 11 => Is (.pointer (some ⟨w.heap.size, 1, none⟩)) v
          | 12 => Is (.pointer (some ⟨w.heap.size, 1 + k * 2, none⟩)) v
          | _ => True)
        (fun L W => BesS w ((w.heap.size, arrL true (mixF k F l) (mixF k G h)) :: Lr) ((w.heap.size, arrL true (mixF (k + 1) F l) (mixF (k + 1) G h)) :: Lr) L W) TT
        (by kernel_rfl) (by kernel_rfl) (by kernel_rfl) (by kernel_rfl) (by kernel_rfl) rfl hS0 (fun i j v W W' _ h _ => h) ?_ ?_
      · intro i L vals W hi' hφ hS hL hd
        have hi2 : i < 14 := hi'
        clear hi' hS0
        rcases (show i = 0 ∨ i = 1 ∨ i = 2 ∨ i = 3 ∨ i = 4 ∨ i = 5 ∨ i = 6 ∨ i = 7 ∨ i = 8 ∨ i = 9 ∨ i = 10 ∨ i = 11 ∨ i = 12 ∨ i = 13 by omega) with rfl | rfl | rfl | rfl | rfl | rfl | rfl | rfl | rfl | rfl | rfl | rfl | rfl | rfl
        · refine wpAt_of rfl rfl ?_
          simp only [frOf, Act.put]
          go_wp2_with fail
          first | exact ⟨trivial, rfl, trivial, ⟨hS.1.go (fun e => absurd e (by decide)), hS.2.1.go (fun e => absurd e (by decide)), hS.2.2.keep (by decide)⟩⟩ | exact ⟨rfl, trivial, ⟨hS.1.go (fun e => absurd e (by decide)), hS.2.1.go (fun e => absurd e (by decide)), hS.2.2.keep (by decide)⟩⟩
        · refine wpAt_of rfl rfl ?_
          simp only [frOf, Act.put]
          go_wp2_with fail
          first | exact ⟨trivial, rfl, trivial, ⟨hS.1.go (fun e => absurd e (by decide)), hS.2.1.go (fun e => absurd e (by decide)), hS.2.2.keep (by decide)⟩⟩ | exact ⟨rfl, trivial, ⟨hS.1.go (fun e => absurd e (by decide)), hS.2.1.go (fun e => absurd e (by decide)), hS.2.2.keep (by decide)⟩⟩
        · refine wpAt_of rfl rfl ?_
          simp only [frOf, Act.put]
          go_wp2_with fail
          first | exact ⟨trivial, rfl, trivial, ⟨hS.1.go (fun e => absurd e (by decide)), hS.2.1.go (fun e => absurd e (by decide)), hS.2.2.keep (by decide)⟩⟩ | exact ⟨rfl, trivial, ⟨hS.1.go (fun e => absurd e (by decide)), hS.2.1.go (fun e => absurd e (by decide)), hS.2.2.keep (by decide)⟩⟩
        · refine wpAt_of rfl rfl ?_
          simp only [frOf, Act.put]
          go_wp2_with fail
          first | exact ⟨trivial, rfl, trivial, ⟨hS.1.go (fun e => absurd e (by decide)), hS.2.1.go (fun e => absurd e (by decide)), hS.2.2.keep (by decide)⟩⟩ | exact ⟨rfl, trivial, ⟨hS.1.go (fun e => absurd e (by decide)), hS.2.1.go (fun e => absurd e (by decide)), hS.2.2.keep (by decide)⟩⟩
        · have k2 : vals 2 = .int .i64 k := hφ 2 (hd 2 (by decide))
          have k3 : vals 3 = .pointer (some ⟨w.heap.size, 1, none⟩) := hφ 3 (hd 3 (by decide))
          refine wpAt_of rfl rfl ?_
          simp only [frOf, Act.put]
          go_wp2_with fail
          first | exact ⟨trivial, rfl, trivial, ⟨hS.1.go (fun e => absurd e (by decide)), hS.2.1.go (fun e => absurd e (by decide)), hS.2.2.keep (by decide)⟩⟩ | exact ⟨rfl, trivial, ⟨hS.1.go (fun e => absurd e (by decide)), hS.2.1.go (fun e => absurd e (by decide)), hS.2.2.keep (by decide)⟩⟩
        · have k4 : vals 4 = .pointer (some ⟨w.heap.size, 1 + k * 2, none⟩) := hφ 4 (hd 4 (by decide))
          have h13 : L 13 = false := hS.1.no (hS.2.1.no hL)
          have hH := hS.2.2.1 h13
          have d0 := hH.cell List.mem_cons_self (i := 1 + k * 2) (arr_lo true (mixF k F l) (mixF k G h) hlt)
          have d1 := hH.cell List.mem_cons_self (i := 1 + k * 2 + 1) (arr_hi true (mixF k F l) (mixF k G h) hlt)
          rw [mixF_k] at d0 d1
          dsimp only at d0 d1
          refine wpAt_of rfl rfl ?_
          simp only [frOf, Act.put]
          go_wp2_with fail
          first | exact ⟨trivial, rfl, trivial, ⟨hS.1.go (fun e => absurd e (by decide)), hS.2.1.go (fun e => absurd e (by decide)), hS.2.2.keep (by decide)⟩⟩ | exact ⟨rfl, trivial, ⟨hS.1.go (fun e => absurd e (by decide)), hS.2.1.go (fun e => absurd e (by decide)), hS.2.2.keep (by decide)⟩⟩
        · refine wpAt_of rfl rfl ?_
          simp only [frOf, Act.put]
          go_wp2_with fail
          first | exact ⟨trivial, rfl, trivial, ⟨hS.1.go (fun e => absurd e (by decide)), hS.2.1.go (fun e => absurd e (by decide)), hS.2.2.keep (by decide)⟩⟩ | exact ⟨rfl, trivial, ⟨hS.1.go (fun e => absurd e (by decide)), hS.2.1.go (fun e => absurd e (by decide)), hS.2.2.keep (by decide)⟩⟩
        · refine wpAt_of rfl rfl ?_
          simp only [frOf, Act.put]
          go_wp2_with fail
          first | exact ⟨trivial, rfl, trivial, ⟨hS.1.go (fun e => absurd e (by decide)), hS.2.1.go (fun e => absurd e (by decide)), hS.2.2.keep (by decide)⟩⟩ | exact ⟨rfl, trivial, ⟨hS.1.go (fun e => absurd e (by decide)), hS.2.1.go (fun e => absurd e (by decide)), hS.2.2.keep (by decide)⟩⟩
        · have k6 : vals 6 = .int .i64 k := hφ 6 (hd 6 (by decide))
          have k7 : vals 7 = .pointer (some ⟨w.heap.size + 1, 1, none⟩) := hφ 7 (hd 7 (by decide))
          refine wpAt_of rfl rfl ?_
          simp only [frOf, Act.put]
          go_wp2_with fail
          first | exact ⟨trivial, rfl, trivial, ⟨hS.1.go (fun e => absurd e (by decide)), hS.2.1.go (fun e => absurd e (by decide)), hS.2.2.keep (by decide)⟩⟩ | exact ⟨rfl, trivial, ⟨hS.1.go (fun e => absurd e (by decide)), hS.2.1.go (fun e => absurd e (by decide)), hS.2.2.keep (by decide)⟩⟩
        · have k8 : vals 8 = .pointer (some ⟨w.heap.size + 1, 1 + k * 2, none⟩) := hφ 8 (hd 8 (by decide))
          have hc : ∀ j v, (arrL true l' h')[j]? = some v → W.cell? ⟨w.heap.size + 1, j, none⟩ = some v := fun j v hj => by cases h13 : L 13 <;> first | exact (hS.2.2.1 h13).cell (List.mem_cons_of_mem _ mB) hj | exact (hS.2.2.2 h13).cell (List.mem_cons_of_mem _ mB) hj
          have d0 := hc _ _ (arr_lo true l' h' hlt)
          have d1 := hc _ _ (arr_hi true l' h' hlt)
          clear hc
          refine wpAt_of rfl rfl ?_
          simp only [frOf, Act.put]
          go_wp2_with fail
          first | exact ⟨trivial, rfl, trivial, ⟨hS.1.go (fun e => absurd e (by decide)), hS.2.1.go (fun e => absurd e (by decide)), hS.2.2.keep (by decide)⟩⟩ | exact ⟨rfl, trivial, ⟨hS.1.go (fun e => absurd e (by decide)), hS.2.1.go (fun e => absurd e (by decide)), hS.2.2.keep (by decide)⟩⟩
        · have k1 : vals 1 = fv := hφ 1 (hd 1 (by decide))
          have k5 : vals 5 = .agg #[.int .i64 (l k), .int .i64 (h k)] := hφ 5 (hd 5 (by decide))
          have k9 : vals 9 = .agg #[.int .i64 (l' k), .int .i64 (h' k)] := hφ 9 (hd 9 (by decide))
          rw [hfvS.out] at k1
          refine wpAt_of rfl rfl ?_
          simp only [frOf, Act.put]
          go_wp2_with fail
          refine (hf _ _ hS.2.2.below).mono ?_
          rintro e W' ⟨rfl, hb⟩
          go_wp2_with fail
          first | exact ⟨trivial, rfl, trivial, ⟨hS.1.go (fun e => absurd e (by decide)), hS.2.1.go (fun _ => hd 5 (by decide)), (hS.2.2.next hb).keep (by decide)⟩⟩ | exact ⟨rfl, trivial, ⟨hS.1.go (fun e => absurd e (by decide)), hS.2.1.go (fun _ => hd 5 (by decide)), (hS.2.2.next hb).keep (by decide)⟩⟩
        · refine wpAt_of rfl rfl ?_
          simp only [frOf, Act.put]
          go_wp2_with fail
          first | exact ⟨trivial, rfl, trivial, ⟨hS.1.go (fun e => absurd e (by decide)), hS.2.1.go (fun e => absurd e (by decide)), hS.2.2.keep (by decide)⟩⟩ | exact ⟨rfl, trivial, ⟨hS.1.go (fun e => absurd e (by decide)), hS.2.1.go (fun e => absurd e (by decide)), hS.2.2.keep (by decide)⟩⟩
        · have k0 : vals 0 = .int .i64 k := hφ 0 (hd 0 (by decide))
          have k11 : vals 11 = .pointer (some ⟨w.heap.size, 1, none⟩) := hφ 11 (hd 11 (by decide))
          refine wpAt_of rfl rfl ?_
          simp only [frOf, Act.put]
          go_wp2_with fail
          first | exact ⟨trivial, rfl, trivial, ⟨hS.1.go (fun e => absurd e (by decide)), hS.2.1.go (fun e => absurd e (by decide)), hS.2.2.keep (by decide)⟩⟩ | exact ⟨rfl, trivial, ⟨hS.1.go (fun e => absurd e (by decide)), hS.2.1.go (fun e => absurd e (by decide)), hS.2.2.keep (by decide)⟩⟩
        · have k10 : vals 10 = .agg #[.int .i64 (F k), .int .i64 (G k)] := hφ 10 (hd 10 (by decide))
          have k12 : vals 12 = .pointer (some ⟨w.heap.size, 1 + k * 2, none⟩) := hφ 12 (hd 12 (by decide))
          have hH := hS.2.2.1 hL
          have q0 := hH.cell List.mem_cons_self (i := 1 + k * 2) (arr_lo true (mixF k F l) (mixF k G h) hlt)
          have q1 := hH.cell List.mem_cons_self (i := 1 + k * 2 + 1) (arr_hi true (mixF k F l) (mixF k G h) hlt)
          have fr := hH.free _ List.mem_cons_self
          dsimp only at q0 q1 fr
          have hA := HeldL.putI (i := 1 + k * 2 + 1) (x := .int .i64 (G k)) (by omega) ne0 (HeldL.putI (i := 1 + k * 2) (x := .int .i64 (F k)) (by omega) ne0 hH (by simp [arrL]; omega)) (by simp [arrL]; omega)
          rw [mix_put hlt] at hA
          refine wpAt_none rfl rfl ?_
          simp only [frOf, Act.put]
          go_wp2_with fail
          first | exact ⟨trivial, trivial, trivial, ⟨hS.1.go (fun _ => hd 10 (by decide)), hS.2.1.go (fun e => absurd e (by decide)), Once.done hA⟩⟩ | exact ⟨trivial, trivial, ⟨hS.1.go (fun _ => hd 10 (by decide)), hS.2.1.go (fun e => absurd e (by decide)), Once.done hA⟩⟩ | exact ⟨trivial, ⟨hS.1.go (fun _ => hd 10 (by decide)), hS.2.1.go (fun e => absurd e (by decide)), Once.done hA⟩⟩
      · intro L vals W hall hφ hS
        have k0 : vals 0 = .int .i64 k := hφ 0 (by decide)
        have k1 : vals 1 = fv := hφ 1 (by decide)
        have k2 : vals 2 = .int .i64 k := hφ 2 (by decide)
        have k3 : vals 3 = .pointer (some ⟨w.heap.size, 1, none⟩) := hφ 3 (by decide)
        have k4 : vals 4 = .pointer (some ⟨w.heap.size, 1 + k * 2, none⟩) := hφ 4 (by decide)
        have k5 : vals 5 = .agg #[.int .i64 (l k), .int .i64 (h k)] := hφ 5 (by decide)
        have k6 : vals 6 = .int .i64 k := hφ 6 (by decide)
        have k7 : vals 7 = .pointer (some ⟨w.heap.size + 1, 1, none⟩) := hφ 7 (by decide)
        have k8 : vals 8 = .pointer (some ⟨w.heap.size + 1, 1 + k * 2, none⟩) := hφ 8 (by decide)
        have k9 : vals 9 = .agg #[.int .i64 (l' k), .int .i64 (h' k)] := hφ 9 (by decide)
        have k10 : vals 10 = .agg #[.int .i64 (F k), .int .i64 (G k)] := hφ 10 (by decide)
        have k11 : vals 11 = .pointer (some ⟨w.heap.size, 1, none⟩) := hφ 11 (by decide)
        have k12 : vals 12 = .pointer (some ⟨w.heap.size, 1 + k * 2, none⟩) := hφ 12 (by decide)
        have H := hS.2.2.2 (hall 13 (by decide))
        simp only [frOf, Act.put, List.setIfInBounds_toArray, List.set_cons_succ, List.set_cons_zero, k0, k1, k2, k3, k4, k5, k6, k7, k8, k9, k10, k11, k12]
        clear k0 k1 k2 k3 k4 k5 k6 k7 k8 k9 k10 k11 k12 hall hφ hS0 hS
        go_wp2_with fail
        go_roundw
        case rel => exact ⟨k + 1, by omega, by go_num, H⟩
        case measure => simp [intOf]; omega
    · obtain rfl : k = 5 := by omega
      have eF : arrL true (mixF 5 F l) (mixF 5 G h) = arrL true F G := by simp [arrL, mixF]
      rw [eF] at H
      have o0 := H.cell List.mem_cons_self (i := 0) rfl
      have o1 := H.cell List.mem_cons_self (i := 1) rfl
      have o2 := H.cell List.mem_cons_self (i := 2) rfl
      have o3 := H.cell List.mem_cons_self (i := 3) rfl
      have o4 := H.cell List.mem_cons_self (i := 4) rfl
      have o5 := H.cell List.mem_cons_self (i := 5) rfl
      have o6 := H.cell List.mem_cons_self (i := 6) rfl
      have o7 := H.cell List.mem_cons_self (i := 7) rfl
      have o8 := H.cell List.mem_cons_self (i := 8) rfl
      have o9 := H.cell List.mem_cons_self (i := 9) rfl
      have o10 := H.cell List.mem_cons_self (i := 10) rfl
      have r0 := H.cell (List.mem_cons_of_mem _ mZ) (i := 0) rfl
      have r1 := H.cell (List.mem_cons_of_mem _ mZ) (i := 1) rfl
      have r2 := H.cell (List.mem_cons_of_mem _ mZ) (i := 2) rfl
      have r3 := H.cell (List.mem_cons_of_mem _ mZ) (i := 3) rfl
      have r4 := H.cell (List.mem_cons_of_mem _ mZ) (i := 4) rfl
      have r5 := H.cell (List.mem_cons_of_mem _ mZ) (i := 5) rfl
      have r6 := H.cell (List.mem_cons_of_mem _ mZ) (i := 6) rfl
      have r7 := H.cell (List.mem_cons_of_mem _ mZ) (i := 7) rfl
      have r8 := H.cell (List.mem_cons_of_mem _ mZ) (i := 8) rfl
      have r9 := H.cell (List.mem_cons_of_mem _ mZ) (i := 9) rfl
      have r10 := H.cell (List.mem_cons_of_mem _ mZ) (i := 10) rfl
      have fr := H.free _ (List.mem_cons_of_mem _ mZ)
      have bE := H.below
      dsimp only at fr o0 r0 o1 r1 o2 r2 o3 r3 o4 r4 o5 r5 o6 r6 o7 r7 o8 r8 o9 r9 o10 r10
      obtain ⟨e0, e1, e2, e3, e4, e5, e6, e7, e8, e9, e10⟩ := own11c r0 r1 r2 r3 r4 r5 r6 r7 r8 r9 r10
      clear H hf
      go_wp2_with fail
      refine bodyPost_ret (v := .agg #[.bool true, .int .i64 (F 0), .int .i64 (G 0), .int .i64 (F 1), .int .i64 (G 1), .int .i64 (F 2), .int .i64 (G 2), .int .i64 (F 3), .int .i64 (G 3), .int .i64 (F 4), .int .i64 (G 4)]) (by simp [results, Tryd.results15, go_sem, e0, e1, e2, e3, e4, e5, e6, e7, e8, e9, e10]) rfl ⟨rfl, ?_⟩
      exact setAll_below (g := w.heap.size + 1 + 1) (by omega) [.bool true, .int .i64 (F 0), .int .i64 (G 0), .int .i64 (F 1), .int .i64 (G 1), .int .i64 (F 2), .int .i64 (G 2), .int .i64 (F 3), .int .i64 (G 3), .int .i64 (F 4), .int .i64 (G 4)] 0 _ bE
theorem besideW (on on' : Bool) (l h l' h' F G : Nat → Int) (hF : (fun k => wideLo (l k) (h k) (l' k) (h' k)) = F) (hG : (fun k => wideHi (l k) (h k) (l' k) (h' k)) = G) (w : World) (hst : StepsIn w) :
    Calls Tryd.prog 15 #[.agg #[.bool on, .int .i64 (l 0), .int .i64 (h 0), .int .i64 (l 1), .int .i64 (h 1), .int .i64 (l 2), .int .i64 (h 2), .int .i64 (l 3), .int .i64 (h 3), .int .i64 (l 4), .int .i64 (h 4)], .agg #[.bool on', .int .i64 (l' 0), .int .i64 (h' 0), .int .i64 (l' 1), .int .i64 (h' 1), .int .i64 (l' 2), .int .i64 (h' 2), .int .i64 (l' 3), .int .i64 (h' 3), .int .i64 (l' 4), .int .i64 (h' 4)], .func (.func 16) #[] #[]] w fun e w' => e = .returned (.agg #[.bool (on || on'), .int .i64 (jF on on' l l' F 0), .int .i64 (jF on on' h h' G 0), .int .i64 (jF on on' l l' F 1), .int .i64 (jF on on' h h' G 1), .int .i64 (jF on on' l l' F 2), .int .i64 (jF on on' h h' G 2), .int .i64 (jF on on' l l' F 3), .int .i64 (jF on on' h h' G 3), .int .i64 (jF on on' l l' F 4), .int .i64 (jF on on' h h' G 4)]) ∧ Below w.heap.size w w' := by
  subst hF hG
  cases on
  · exact beside_f on' l h l' h' _ w
  · cases on'
    · exact beside_tf l h l' h' _ w
    · exact beside_wide l h l' h' w hst
end Go.Proofs.YtiehokibfdaleaaDoor
