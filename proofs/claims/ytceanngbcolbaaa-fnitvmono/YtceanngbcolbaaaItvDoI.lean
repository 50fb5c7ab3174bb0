/- Reckoning with bounds: the program's (I). -/
import Derived.Test.YtceanngbcolbaaaItvDivI
import Derived.Test.YtceanngbcolbaaaItvFoldI
import Derived.WalkKit
import Derived.ProofKit
import Derived.OpenShut
import Derived.Below
namespace Go.Proofs.Ytceanngbcolbaaa
open Go.ChangeShapes Go.WideShapes Go.ChangeAt Go.RowKit

theorem mul64 {a b : Int} (h1 : -32768 ≤ a) (h2 : a ≤ 32767) (h3 : -32768 ≤ b) (h4 : b ≤ 32767) : wrap64 (a * b) = a * b := by
  have h : (a * b).natAbs ≤ 32768 * 32768 := by
    rw [Int.natAbs_mul]
    exact Nat.mul_le_mul (by omega) (by omega)
  unfold wrap64
  omega
theorem foldI_eq {x y : Int} (lo hi : Int) (w : World) (h1 : x = lo) (h2 : y = hi) :
    Calls Try.prog 35 #[.int .i64 x, .int .i64 y] w fun e w' => e = .returned (.agg #[.int .i64 (foldLo lo hi), .int .i64 (foldHi lo hi)]) ∧ Below w.heap.size w w' := by
  subst h1 h2
  exact foldI _ _ _
theorem mn2 (p q : Int) : mnUp (fun j => ([p, q] : List Int).getD j 0) 1 = min p q := rfl
theorem mx2 (p q : Int) : mxUp (fun j => ([p, q] : List Int).getD j 0) 1 = max p q := rfl
theorem mn4 (p q r s : Int) : mnUp (fun j => ([p, q, r, s] : List Int).getD j 0) 3 = min (min (min p q) r) s := rfl
theorem mx4 (p q r s : Int) : mxUp (fun j => ([p, q, r, s] : List Int).getD j 0) 3 = max (max (max p q) r) s := rfl
theorem mn4s (p q r s : Int) : mnUp (fun j => ([p, q, r, s] : List Int).getD j 0) 3 = spanLo p q r s := by rw [mn4, spanLo]; omega
theorem mx4s (p q r s : Int) : mxUp (fun j => ([p, q, r, s] : List Int).getD j 0) 3 = spanHi p q r s := by rw [mx4, spanHi]; omega
theorem mn8 (p q r s x y z t : Int) : mnUp (fun j => ([p, q, r, s, x, y, z, t] : List Int).getD j 0) 7 = min (min (min (min p q) r) s) (min (min (min x y) z) t) := by
  show min (min (min (min (min (min (min p q) r) s) x) y) z) t = _
  generalize min (min (min p q) r) s = u
  omega
theorem mx8 (p q r s x y z t : Int) : mxUp (fun j => ([p, q, r, s, x, y, z, t] : List Int).getD j 0) 7 = max (max (max (max p q) r) s) (max (max (max x y) z) t) := by
  show max (max (max (max (max (max (max p q) r) s) x) y) z) t = _
  generalize max (max (max p q) r) s = u
  omega
theorem span_swapLo (p q r s : Int) : min (min (min p q) r) s = spanLo p r q s := by rw [spanLo]; omega
theorem span_swapHi (p q r s : Int) : max (max (max p q) r) s = spanHi p r q s := by rw [spanHi]; omega
theorem quot_ends {a b c d : Int} (h : c ≤ d) (hn : ¬ (c = 0 ∧ d = 0)) : ∃ n, (qs a b (dvs c d)).length = n + 1 ∧ n < 100 ∧ mnUp (fun j => (qs a b (dvs c d)).getD j 0) n = divLo a b c d ∧ mxUp (fun j => (qs a b (dvs c d)).getD j 0) n = divHi a b c d := by
  by_cases h1 : d < 0
  · have e : dvs c d = [c, d] := by simp [dvs, h1]
    have m : min d (-1) = d := by omega
    rw [e]
    refine ⟨3, rfl, by omega, ?_, ?_⟩
    · rw [divLo, if_neg (by omega), if_pos (by omega), m]; exact (mn4 _ _ _ _).trans (span_swapLo _ _ _ _)
    · rw [divHi, if_neg (by omega), if_pos (by omega), m]; exact (mx4 _ _ _ _).trans (span_swapHi _ _ _ _)
  by_cases h2 : c < 0
  · by_cases h3 : d = 0
    · have e : dvs c d = [c, -1] := by simp [dvs, h2, h3]
      have m : min d (-1) = -1 := by omega
      rw [e]
      refine ⟨3, rfl, by omega, ?_, ?_⟩
      · rw [divLo, if_neg (by omega), if_pos (by omega), m]; exact (mn4 _ _ _ _).trans (span_swapLo _ _ _ _)
      · rw [divHi, if_neg (by omega), if_pos (by omega), m]; exact (mx4 _ _ _ _).trans (span_swapHi _ _ _ _)
    · have e : dvs c d = [c, -1, 1, d] := by simp [dvs, h1, h2, h3]
      rw [e]
      refine ⟨7, rfl, by omega, ?_, ?_⟩
      · rw [divLo, if_neg (by omega), if_neg (by omega)]; refine (mn8 _ _ _ _ _ _ _ _).trans ?_; rw [Int.tdiv_one, Int.tdiv_one, span_swapLo (a.tdiv c), span_swapLo a]
      · rw [divHi, if_neg (by omega), if_neg (by omega)]; refine (mx8 _ _ _ _ _ _ _ _).trans ?_; rw [Int.tdiv_one, Int.tdiv_one, span_swapHi (a.tdiv c), span_swapHi a]
  by_cases h3 : 0 < c
  · have e : dvs c d = [c, d] := by simp [dvs, h1, h2, h3]
    have m : max c 1 = c := by omega
    rw [e]
    refine ⟨3, rfl, by omega, ?_, ?_⟩
    · rw [divLo, if_pos (by omega), m]; exact (mn4 _ _ _ _).trans (span_swapLo _ _ _ _)
    · rw [divHi, if_pos (by omega), m]; exact (mx4 _ _ _ _).trans (span_swapHi _ _ _ _)
  · have e : dvs c d = [1, d] := by simp [dvs, h1, h2, h3]; omega
    have m : max c 1 = 1 := by omega
    rw [e]
    refine ⟨3, rfl, by omega, ?_, ?_⟩
    · rw [divLo, if_pos (by omega), m]; exact (mn4 _ _ _ _).trans (span_swapLo _ _ _ _)
    · rw [divHi, if_pos (by omega), m]; exact (mx4 _ _ _ _).trans (span_swapHi _ _ _ _)

set_option maxRecDepth 10000 in
set_option maxHeartbeats 4000000 in
theorem itvDoI_na (op a b c d : Int) (w : World) (hab : itvOk a b = false) :
    Calls Try.prog 9 #[.int .i64 op, .agg #[.int .i64 a, .int .i64 b], .agg #[.int .i64 c, .int .i64 d]] w fun e w' => e = .returned (.tuple #[.agg #[.int .i64 (0), .int .i64 (0)], .bool false]) ∧ Below w.heap.size w w' := by
  go_enter Try.func9, Try.ntmps9
  go_wp2_with fail
  refine (itvOkI _ _ _).mono ?_
  rintro e w1 ⟨rfl, hB⟩
  have H1 := HeldL.next hB (held3 w (.int .i64 (a)) (.int .i64 (b)) (.int .i64 (c)) (.int .i64 (d)) (.int .i64 0) (.int .i64 0) 24)
  have c00 : w1.cell? ⟨w.heap.size + 1 + 1, 0, none⟩ = some (.int .i64 (0)) := H1.cell (e := (w.heap.size + 1 + 1, [.int .i64 (0), .int .i64 (0)])) (by simp) (i := 0) rfl
  have c01 : w1.cell? ⟨w.heap.size + 1 + 1, 1, none⟩ = some (.int .i64 (0)) := H1.cell (e := (w.heap.size + 1 + 1, [.int .i64 (0), .int .i64 (0)])) (by simp) (i := 1) rfl
  have c10 : w1.cell? ⟨w.heap.size + 1, 0, none⟩ = some (.int .i64 (c)) := H1.cell (e := (w.heap.size + 1, [.int .i64 (c), .int .i64 (d)])) (by simp) (i := 0) rfl
  have c11 : w1.cell? ⟨w.heap.size + 1, 1, none⟩ = some (.int .i64 (d)) := H1.cell (e := (w.heap.size + 1, [.int .i64 (c), .int .i64 (d)])) (by simp) (i := 1) rfl
  have c20 : w1.cell? ⟨w.heap.size, 0, none⟩ = some (.int .i64 (a)) := H1.cell (e := (w.heap.size, [.int .i64 (a), .int .i64 (b)])) (by simp) (i := 0) rfl
  have c21 : w1.cell? ⟨w.heap.size, 1, none⟩ = some (.int .i64 (b)) := H1.cell (e := (w.heap.size, [.int .i64 (a), .int .i64 (b)])) (by simp) (i := 1) rfl
  have f0 : ∀ i, w1.frozen? ⟨w.heap.size + 1 + 1, i, none⟩ = false := H1.free (w.heap.size + 1 + 1, [.int .i64 (0), .int .i64 (0)]) (by simp)
  have z0 : w.heap.size + 1 + 1 < w1.heap.size := H1.size (e := (w.heap.size + 1 + 1, [.int .i64 (0), .int .i64 (0)])) (by simp)
  clear hB
  go_wp2_with fail
  refine bodyPost_ret (v := .tuple #[.agg #[.int .i64 (0), .int .i64 (0)], .bool false]) (by simp [results, Try.results9, go_sem, cell_set, c00, c01]) rfl ⟨rfl, ?_⟩
  repeat (first | exact H1.below | refine Below.drew ?_ | refine Below.setCell ?_ (by simp; try omega) _)

set_option maxRecDepth 10000 in
set_option maxHeartbeats 4000000 in
theorem itvDoI_nb (op a b c d : Int) (w : World) (hab : itvOk a b = true) (hcd : itvOk c d = false) :
    Calls Try.prog 9 #[.int .i64 op, .agg #[.int .i64 a, .int .i64 b], .agg #[.int .i64 c, .int .i64 d]] w fun e w' => e = .returned (.tuple #[.agg #[.int .i64 (0), .int .i64 (0)], .bool false]) ∧ Below w.heap.size w w' := by
  go_enter Try.func9, Try.ntmps9
  go_wp2_with fail
  refine (itvOkI _ _ _).mono ?_
  rintro e w1 ⟨rfl, hB⟩
  have H1 := HeldL.next hB (held3 w (.int .i64 (a)) (.int .i64 (b)) (.int .i64 (c)) (.int .i64 (d)) (.int .i64 0) (.int .i64 0) 24)
  have c00 : w1.cell? ⟨w.heap.size + 1 + 1, 0, none⟩ = some (.int .i64 (0)) := H1.cell (e := (w.heap.size + 1 + 1, [.int .i64 (0), .int .i64 (0)])) (by simp) (i := 0) rfl
  have c01 : w1.cell? ⟨w.heap.size + 1 + 1, 1, none⟩ = some (.int .i64 (0)) := H1.cell (e := (w.heap.size + 1 + 1, [.int .i64 (0), .int .i64 (0)])) (by simp) (i := 1) rfl
  have c10 : w1.cell? ⟨w.heap.size + 1, 0, none⟩ = some (.int .i64 (c)) := H1.cell (e := (w.heap.size + 1, [.int .i64 (c), .int .i64 (d)])) (by simp) (i := 0) rfl
  have c11 : w1.cell? ⟨w.heap.size + 1, 1, none⟩ = some (.int .i64 (d)) := H1.cell (e := (w.heap.size + 1, [.int .i64 (c), .int .i64 (d)])) (by simp) (i := 1) rfl
  have c20 : w1.cell? ⟨w.heap.size, 0, none⟩ = some (.int .i64 (a)) := H1.cell (e := (w.heap.size, [.int .i64 (a), .int .i64 (b)])) (by simp) (i := 0) rfl
  have c21 : w1.cell? ⟨w.heap.size, 1, none⟩ = some (.int .i64 (b)) := H1.cell (e := (w.heap.size, [.int .i64 (a), .int .i64 (b)])) (by simp) (i := 1) rfl
  have f0 : ∀ i, w1.frozen? ⟨w.heap.size + 1 + 1, i, none⟩ = false := H1.free (w.heap.size + 1 + 1, [.int .i64 (0), .int .i64 (0)]) (by simp)
  have z0 : w.heap.size + 1 + 1 < w1.heap.size := H1.size (e := (w.heap.size + 1 + 1, [.int .i64 (0), .int .i64 (0)])) (by simp)
  clear hB
  go_wp2_with fail
  refine (itvOkI _ _ _).mono ?_
  rintro e w2 ⟨rfl, hB⟩
  have H2 := HeldL.next hB H1
  clear c00 c01 c10 c11 c20 c21 f0 z0
  have c00 : w2.cell? ⟨w.heap.size + 1 + 1, 0, none⟩ = some (.int .i64 (0)) := H2.cell (e := (w.heap.size + 1 + 1, [.int .i64 (0), .int .i64 (0)])) (by simp) (i := 0) rfl
  have c01 : w2.cell? ⟨w.heap.size + 1 + 1, 1, none⟩ = some (.int .i64 (0)) := H2.cell (e := (w.heap.size + 1 + 1, [.int .i64 (0), .int .i64 (0)])) (by simp) (i := 1) rfl
  have c10 : w2.cell? ⟨w.heap.size + 1, 0, none⟩ = some (.int .i64 (c)) := H2.cell (e := (w.heap.size + 1, [.int .i64 (c), .int .i64 (d)])) (by simp) (i := 0) rfl
  have c11 : w2.cell? ⟨w.heap.size + 1, 1, none⟩ = some (.int .i64 (d)) := H2.cell (e := (w.heap.size + 1, [.int .i64 (c), .int .i64 (d)])) (by simp) (i := 1) rfl
  have c20 : w2.cell? ⟨w.heap.size, 0, none⟩ = some (.int .i64 (a)) := H2.cell (e := (w.heap.size, [.int .i64 (a), .int .i64 (b)])) (by simp) (i := 0) rfl
  have c21 : w2.cell? ⟨w.heap.size, 1, none⟩ = some (.int .i64 (b)) := H2.cell (e := (w.heap.size, [.int .i64 (a), .int .i64 (b)])) (by simp) (i := 1) rfl
  have f0 : ∀ i, w2.frozen? ⟨w.heap.size + 1 + 1, i, none⟩ = false := H2.free (w.heap.size + 1 + 1, [.int .i64 (0), .int .i64 (0)]) (by simp)
  have z0 : w.heap.size + 1 + 1 < w2.heap.size := H2.size (e := (w.heap.size + 1 + 1, [.int .i64 (0), .int .i64 (0)])) (by simp)
  clear hB
  go_wp2_with fail
  refine bodyPost_ret (v := .tuple #[.agg #[.int .i64 (0), .int .i64 (0)], .bool false]) (by simp [results, Try.results9, go_sem, cell_set, c00, c01]) rfl ⟨rfl, ?_⟩
  repeat (first | exact H2.below | refine Below.drew ?_ | refine Below.setCell ?_ (by simp; try omega) _)

set_option maxRecDepth 10000 in
set_option maxHeartbeats 4000000 in
theorem itvDoI_op (op a b c d : Int) (w : World) (hab : itvOk a b = true) (hcd : itvOk c d = true) (h1 : op ≠ 1) (h2 : op ≠ 2) (h3 : op ≠ 3) (h4 : op ≠ 4) :
    Calls Try.prog 9 #[.int .i64 op, .agg #[.int .i64 a, .int .i64 b], .agg #[.int .i64 c, .int .i64 d]] w fun e w' => e = .returned (.tuple #[.agg #[.int .i64 (0), .int .i64 (0)], .bool false]) ∧ Below w.heap.size w w' := by
  have g1 : (op == 1) = false := by simpa using h1
  have g2 : (op == 2) = false := by simpa using h2
  have g3 : (op == 3) = false := by simpa using h3
  have g4 : (op == 4) = false := by simpa using h4
  go_enter Try.func9, Try.ntmps9
  go_wp2_with fail
  refine (itvOkI _ _ _).mono ?_
  rintro e w1 ⟨rfl, hB⟩
  have H1 := HeldL.next hB (held3 w (.int .i64 (a)) (.int .i64 (b)) (.int .i64 (c)) (.int .i64 (d)) (.int .i64 0) (.int .i64 0) 24)
  have c00 : w1.cell? ⟨w.heap.size + 1 + 1, 0, none⟩ = some (.int .i64 (0)) := H1.cell (e := (w.heap.size + 1 + 1, [.int .i64 (0), .int .i64 (0)])) (by simp) (i := 0) rfl
  have c01 : w1.cell? ⟨w.heap.size + 1 + 1, 1, none⟩ = some (.int .i64 (0)) := H1.cell (e := (w.heap.size + 1 + 1, [.int .i64 (0), .int .i64 (0)])) (by simp) (i := 1) rfl
  have c10 : w1.cell? ⟨w.heap.size + 1, 0, none⟩ = some (.int .i64 (c)) := H1.cell (e := (w.heap.size + 1, [.int .i64 (c), .int .i64 (d)])) (by simp) (i := 0) rfl
  have c11 : w1.cell? ⟨w.heap.size + 1, 1, none⟩ = some (.int .i64 (d)) := H1.cell (e := (w.heap.size + 1, [.int .i64 (c), .int .i64 (d)])) (by simp) (i := 1) rfl
  have c20 : w1.cell? ⟨w.heap.size, 0, none⟩ = some (.int .i64 (a)) := H1.cell (e := (w.heap.size, [.int .i64 (a), .int .i64 (b)])) (by simp) (i := 0) rfl
  have c21 : w1.cell? ⟨w.heap.size, 1, none⟩ = some (.int .i64 (b)) := H1.cell (e := (w.heap.size, [.int .i64 (a), .int .i64 (b)])) (by simp) (i := 1) rfl
  have f0 : ∀ i, w1.frozen? ⟨w.heap.size + 1 + 1, i, none⟩ = false := H1.free (w.heap.size + 1 + 1, [.int .i64 (0), .int .i64 (0)]) (by simp)
  have z0 : w.heap.size + 1 + 1 < w1.heap.size := H1.size (e := (w.heap.size + 1 + 1, [.int .i64 (0), .int .i64 (0)])) (by simp)
  clear hB
  go_wp2_with fail
  refine (itvOkI _ _ _).mono ?_
  rintro e w2 ⟨rfl, hB⟩
  have H2 := HeldL.next hB H1
  clear c00 c01 c10 c11 c20 c21 f0 z0
  have c00 : w2.cell? ⟨w.heap.size + 1 + 1, 0, none⟩ = some (.int .i64 (0)) := H2.cell (e := (w.heap.size + 1 + 1, [.int .i64 (0), .int .i64 (0)])) (by simp) (i := 0) rfl
  have c01 : w2.cell? ⟨w.heap.size + 1 + 1, 1, none⟩ = some (.int .i64 (0)) := H2.cell (e := (w.heap.size + 1 + 1, [.int .i64 (0), .int .i64 (0)])) (by simp) (i := 1) rfl
  have c10 : w2.cell? ⟨w.heap.size + 1, 0, none⟩ = some (.int .i64 (c)) := H2.cell (e := (w.heap.size + 1, [.int .i64 (c), .int .i64 (d)])) (by simp) (i := 0) rfl
  have c11 : w2.cell? ⟨w.heap.size + 1, 1, none⟩ = some (.int .i64 (d)) := H2.cell (e := (w.heap.size + 1, [.int .i64 (c), .int .i64 (d)])) (by simp) (i := 1) rfl
  have c20 : w2.cell? ⟨w.heap.size, 0, none⟩ = some (.int .i64 (a)) := H2.cell (e := (w.heap.size, [.int .i64 (a), .int .i64 (b)])) (by simp) (i := 0) rfl
  have c21 : w2.cell? ⟨w.heap.size, 1, none⟩ = some (.int .i64 (b)) := H2.cell (e := (w.heap.size, [.int .i64 (a), .int .i64 (b)])) (by simp) (i := 1) rfl
  have f0 : ∀ i, w2.frozen? ⟨w.heap.size + 1 + 1, i, none⟩ = false := H2.free (w.heap.size + 1 + 1, [.int .i64 (0), .int .i64 (0)]) (by simp)
  have z0 : w.heap.size + 1 + 1 < w2.heap.size := H2.size (e := (w.heap.size + 1 + 1, [.int .i64 (0), .int .i64 (0)])) (by simp)
  clear hB
  go_wp2_with fail
  refine bodyPost_ret (v := .tuple #[.agg #[.int .i64 (0), .int .i64 (0)], .bool false]) (by simp [results, Try.results9, go_sem, cell_set, c00, c01]) rfl ⟨rfl, ?_⟩
  repeat (first | exact H2.below | refine Below.drew ?_ | refine Below.setCell ?_ (by simp; try omega) _)

set_option maxRecDepth 10000 in
set_option maxHeartbeats 4000000 in
theorem itvDoI_z (a b : Int) (w : World) (hab : itvOk a b = true) :
    Calls Try.prog 9 #[.int .i64 4, .agg #[.int .i64 a, .int .i64 b], .agg #[.int .i64 0, .int .i64 0]] w fun e w' => e = .returned (.tuple #[.agg #[.int .i64 (0), .int .i64 (0)], .bool false]) ∧ Below w.heap.size w w' := by
  have hcd : itvOk 0 0 = true := by decide
  go_enter Try.func9, Try.ntmps9
  go_wp2_with fail
  refine (itvOkI _ _ _).mono ?_
  rintro e w1 ⟨rfl, hB⟩
  have H1 := HeldL.next hB (held3 w (.int .i64 (a)) (.int .i64 (b)) (.int .i64 (0)) (.int .i64 (0)) (.int .i64 0) (.int .i64 0) 24)
  have c00 : w1.cell? ⟨w.heap.size + 1 + 1, 0, none⟩ = some (.int .i64 (0)) := H1.cell (e := (w.heap.size + 1 + 1, [.int .i64 (0), .int .i64 (0)])) (by simp) (i := 0) rfl
  have c01 : w1.cell? ⟨w.heap.size + 1 + 1, 1, none⟩ = some (.int .i64 (0)) := H1.cell (e := (w.heap.size + 1 + 1, [.int .i64 (0), .int .i64 (0)])) (by simp) (i := 1) rfl
  have c10 : w1.cell? ⟨w.heap.size + 1, 0, none⟩ = some (.int .i64 (0)) := H1.cell (e := (w.heap.size + 1, [.int .i64 (0), .int .i64 (0)])) (by simp) (i := 0) rfl
  have c11 : w1.cell? ⟨w.heap.size + 1, 1, none⟩ = some (.int .i64 (0)) := H1.cell (e := (w.heap.size + 1, [.int .i64 (0), .int .i64 (0)])) (by simp) (i := 1) rfl
  have c20 : w1.cell? ⟨w.heap.size, 0, none⟩ = some (.int .i64 (a)) := H1.cell (e := (w.heap.size, [.int .i64 (a), .int .i64 (b)])) (by simp) (i := 0) rfl
  have c21 : w1.cell? ⟨w.heap.size, 1, none⟩ = some (.int .i64 (b)) := H1.cell (e := (w.heap.size, [.int .i64 (a), .int .i64 (b)])) (by simp) (i := 1) rfl
  have f0 : ∀ i, w1.frozen? ⟨w.heap.size + 1 + 1, i, none⟩ = false := H1.free (w.heap.size + 1 + 1, [.int .i64 (0), .int .i64 (0)]) (by simp)
  have z0 : w.heap.size + 1 + 1 < w1.heap.size := H1.size (e := (w.heap.size + 1 + 1, [.int .i64 (0), .int .i64 (0)])) (by simp)
  clear hB
  go_wp2_with fail
  refine (itvOkI _ _ _).mono ?_
  rintro e w2 ⟨rfl, hB⟩
  have H2 := HeldL.next hB H1
  clear c00 c01 c10 c11 c20 c21 f0 z0
  have c00 : w2.cell? ⟨w.heap.size + 1 + 1, 0, none⟩ = some (.int .i64 (0)) := H2.cell (e := (w.heap.size + 1 + 1, [.int .i64 (0), .int .i64 (0)])) (by simp) (i := 0) rfl
  have c01 : w2.cell? ⟨w.heap.size + 1 + 1, 1, none⟩ = some (.int .i64 (0)) := H2.cell (e := (w.heap.size + 1 + 1, [.int .i64 (0), .int .i64 (0)])) (by simp) (i := 1) rfl
  have c10 : w2.cell? ⟨w.heap.size + 1, 0, none⟩ = some (.int .i64 (0)) := H2.cell (e := (w.heap.size + 1, [.int .i64 (0), .int .i64 (0)])) (by simp) (i := 0) rfl
  have c11 : w2.cell? ⟨w.heap.size + 1, 1, none⟩ = some (.int .i64 (0)) := H2.cell (e := (w.heap.size + 1, [.int .i64 (0), .int .i64 (0)])) (by simp) (i := 1) rfl
  have c20 : w2.cell? ⟨w.heap.size, 0, none⟩ = some (.int .i64 (a)) := H2.cell (e := (w.heap.size, [.int .i64 (a), .int .i64 (b)])) (by simp) (i := 0) rfl
  have c21 : w2.cell? ⟨w.heap.size, 1, none⟩ = some (.int .i64 (b)) := H2.cell (e := (w.heap.size, [.int .i64 (a), .int .i64 (b)])) (by simp) (i := 1) rfl
  have f0 : ∀ i, w2.frozen? ⟨w.heap.size + 1 + 1, i, none⟩ = false := H2.free (w.heap.size + 1 + 1, [.int .i64 (0), .int .i64 (0)]) (by simp)
  have z0 : w.heap.size + 1 + 1 < w2.heap.size := H2.size (e := (w.heap.size + 1 + 1, [.int .i64 (0), .int .i64 (0)])) (by simp)
  clear hB
  go_wp2_with fail
  refine (quotsI_0 _ _ _).mono ?_
  rintro e w3 ⟨rfl, hB⟩
  have H3 := HeldL.next hB H2
  clear c00 c01 c10 c11 c20 c21 f0 z0
  have c00 : w3.cell? ⟨w.heap.size + 1 + 1, 0, none⟩ = some (.int .i64 (0)) := H3.cell (e := (w.heap.size + 1 + 1, [.int .i64 (0), .int .i64 (0)])) (by simp) (i := 0) rfl
  have c01 : w3.cell? ⟨w.heap.size + 1 + 1, 1, none⟩ = some (.int .i64 (0)) := H3.cell (e := (w.heap.size + 1 + 1, [.int .i64 (0), .int .i64 (0)])) (by simp) (i := 1) rfl
  have c10 : w3.cell? ⟨w.heap.size + 1, 0, none⟩ = some (.int .i64 (0)) := H3.cell (e := (w.heap.size + 1, [.int .i64 (0), .int .i64 (0)])) (by simp) (i := 0) rfl
  have c11 : w3.cell? ⟨w.heap.size + 1, 1, none⟩ = some (.int .i64 (0)) := H3.cell (e := (w.heap.size + 1, [.int .i64 (0), .int .i64 (0)])) (by simp) (i := 1) rfl
  have c20 : w3.cell? ⟨w.heap.size, 0, none⟩ = some (.int .i64 (a)) := H3.cell (e := (w.heap.size, [.int .i64 (a), .int .i64 (b)])) (by simp) (i := 0) rfl
  have c21 : w3.cell? ⟨w.heap.size, 1, none⟩ = some (.int .i64 (b)) := H3.cell (e := (w.heap.size, [.int .i64 (a), .int .i64 (b)])) (by simp) (i := 1) rfl
  have f0 : ∀ i, w3.frozen? ⟨w.heap.size + 1 + 1, i, none⟩ = false := H3.free (w.heap.size + 1 + 1, [.int .i64 (0), .int .i64 (0)]) (by simp)
  have z0 : w.heap.size + 1 + 1 < w3.heap.size := H3.size (e := (w.heap.size + 1 + 1, [.int .i64 (0), .int .i64 (0)])) (by simp)
  clear hB
  go_wp2_with fail
  refine bodyPost_ret (v := .tuple #[.agg #[.int .i64 (0), .int .i64 (0)], .bool false]) (by simp [results, Try.results9, go_sem, cell_set, c00, c01]) rfl ⟨rfl, ?_⟩
  repeat (first | exact H3.below | refine Below.drew ?_ | refine Below.setCell ?_ (by simp; try omega) _)

set_option maxRecDepth 10000 in
set_option maxHeartbeats 4000000 in
theorem itvDoI_1 (a b c d : Int) (w : World) (hab : itvOk a b = true) (hcd : itvOk c d = true) :
    Calls Try.prog 9 #[.int .i64 1, .agg #[.int .i64 a, .int .i64 b], .agg #[.int .i64 c, .int .i64 d]] w fun e w' => e = .returned (.tuple #[.agg #[.int .i64 (foldLo (a + c) (b + d)), .int .i64 (foldHi (a + c) (b + d))], .bool true]) ∧ Below w.heap.size w w' := by
  obtain ⟨ha, hb0, hl1⟩ := itvOk_of hab
  obtain ⟨hc0, hd, hl2⟩ := itvOk_of hcd
  have a1 := ok_lo ha
  have a2 := ok_hi ha
  have a3 := ok_lo hb0
  have a4 := ok_hi hb0
  have a5 := ok_lo hc0
  have a6 := ok_hi hc0
  have a7 := ok_lo hd
  have a8 := ok_hi hd
  clear ha hb0 hc0 hd
  go_enter Try.func9, Try.ntmps9
  go_wp2_with fail
  refine (itvOkI _ _ _).mono ?_
  rintro e w1 ⟨rfl, hB⟩
  have H1 := HeldL.next hB (held3 w (.int .i64 (a)) (.int .i64 (b)) (.int .i64 (c)) (.int .i64 (d)) (.int .i64 0) (.int .i64 0) 24)
  have c00 : w1.cell? ⟨w.heap.size + 1 + 1, 0, none⟩ = some (.int .i64 (0)) := H1.cell (e := (w.heap.size + 1 + 1, [.int .i64 (0), .int .i64 (0)])) (by simp) (i := 0) rfl
  have c01 : w1.cell? ⟨w.heap.size + 1 + 1, 1, none⟩ = some (.int .i64 (0)) := H1.cell (e := (w.heap.size + 1 + 1, [.int .i64 (0), .int .i64 (0)])) (by simp) (i := 1) rfl
  have c10 : w1.cell? ⟨w.heap.size + 1, 0, none⟩ = some (.int .i64 (c)) := H1.cell (e := (w.heap.size + 1, [.int .i64 (c), .int .i64 (d)])) (by simp) (i := 0) rfl
  have c11 : w1.cell? ⟨w.heap.size + 1, 1, none⟩ = some (.int .i64 (d)) := H1.cell (e := (w.heap.size + 1, [.int .i64 (c), .int .i64 (d)])) (by simp) (i := 1) rfl
  have c20 : w1.cell? ⟨w.heap.size, 0, none⟩ = some (.int .i64 (a)) := H1.cell (e := (w.heap.size, [.int .i64 (a), .int .i64 (b)])) (by simp) (i := 0) rfl
  have c21 : w1.cell? ⟨w.heap.size, 1, none⟩ = some (.int .i64 (b)) := H1.cell (e := (w.heap.size, [.int .i64 (a), .int .i64 (b)])) (by simp) (i := 1) rfl
  have f0 : ∀ i, w1.frozen? ⟨w.heap.size + 1 + 1, i, none⟩ = false := H1.free (w.heap.size + 1 + 1, [.int .i64 (0), .int .i64 (0)]) (by simp)
  have z0 : w.heap.size + 1 + 1 < w1.heap.size := H1.size (e := (w.heap.size + 1 + 1, [.int .i64 (0), .int .i64 (0)])) (by simp)
  clear hB
  go_wp2_with fail
  refine (itvOkI _ _ _).mono ?_
  rintro e w2 ⟨rfl, hB⟩
  have H2 := HeldL.next hB H1
  clear c00 c01 c10 c11 c20 c21 f0 z0
  have c00 : w2.cell? ⟨w.heap.size + 1 + 1, 0, none⟩ = some (.int .i64 (0)) := H2.cell (e := (w.heap.size + 1 + 1, [.int .i64 (0), .int .i64 (0)])) (by simp) (i := 0) rfl
  have c01 : w2.cell? ⟨w.heap.size + 1 + 1, 1, none⟩ = some (.int .i64 (0)) := H2.cell (e := (w.heap.size + 1 + 1, [.int .i64 (0), .int .i64 (0)])) (by simp) (i := 1) rfl
  have c10 : w2.cell? ⟨w.heap.size + 1, 0, none⟩ = some (.int .i64 (c)) := H2.cell (e := (w.heap.size + 1, [.int .i64 (c), .int .i64 (d)])) (by simp) (i := 0) rfl
  have c11 : w2.cell? ⟨w.heap.size + 1, 1, none⟩ = some (.int .i64 (d)) := H2.cell (e := (w.heap.size + 1, [.int .i64 (c), .int .i64 (d)])) (by simp) (i := 1) rfl
  have c20 : w2.cell? ⟨w.heap.size, 0, none⟩ = some (.int .i64 (a)) := H2.cell (e := (w.heap.size, [.int .i64 (a), .int .i64 (b)])) (by simp) (i := 0) rfl
  have c21 : w2.cell? ⟨w.heap.size, 1, none⟩ = some (.int .i64 (b)) := H2.cell (e := (w.heap.size, [.int .i64 (a), .int .i64 (b)])) (by simp) (i := 1) rfl
  have f0 : ∀ i, w2.frozen? ⟨w.heap.size + 1 + 1, i, none⟩ = false := H2.free (w.heap.size + 1 + 1, [.int .i64 (0), .int .i64 (0)]) (by simp)
  have z0 : w.heap.size + 1 + 1 < w2.heap.size := H2.size (e := (w.heap.size + 1 + 1, [.int .i64 (0), .int .i64 (0)])) (by simp)
  clear hB
  have K : ∀ j, j < 1 + 1 → (w2.alloc (.cells #[.int .i64 (a + c), .int .i64 (b + d)] 3)).cell? ⟨w2.heap.size, j, none⟩ = some (.int .i64 (([a + c, b + d] : List Int).getD j 0)) := by
    intro j hj
    match j, hj with
    | 0, _ => simp
    | 1, _ => simp
    | m + 2, hj => omega
  go_wp2_with (first | (go_at_call 36; refine (minI w2.heap.size 1 2 (fun j => ([a + c, b + d] : List Int).getD j 0) _ (by omega) K).mono ?_; rintro e w' ⟨rfl, rfl⟩) | (go_at_call 37; refine (maxI w2.heap.size 1 2 (fun j => ([a + c, b + d] : List Int).getD j 0) _ (by omega) K).mono ?_; rintro e w' ⟨rfl, rfl⟩))
  refine (foldI_eq (a + c) (b + d) _ ((mn2 _ _).trans (by omega)) ((mx2 _ _).trans (by omega))).mono ?_
  rintro e w3 ⟨rfl, hB⟩
  have H3 := HeldL.next hB (H2.alloc _)
  clear c00 c01 c10 c11 c20 c21 f0 z0
  have c00 : w3.cell? ⟨w.heap.size + 1 + 1, 0, none⟩ = some (.int .i64 (0)) := H3.cell (e := (w.heap.size + 1 + 1, [.int .i64 (0), .int .i64 (0)])) (by simp) (i := 0) rfl
  have c01 : w3.cell? ⟨w.heap.size + 1 + 1, 1, none⟩ = some (.int .i64 (0)) := H3.cell (e := (w.heap.size + 1 + 1, [.int .i64 (0), .int .i64 (0)])) (by simp) (i := 1) rfl
  have c10 : w3.cell? ⟨w.heap.size + 1, 0, none⟩ = some (.int .i64 (c)) := H3.cell (e := (w.heap.size + 1, [.int .i64 (c), .int .i64 (d)])) (by simp) (i := 0) rfl
  have c11 : w3.cell? ⟨w.heap.size + 1, 1, none⟩ = some (.int .i64 (d)) := H3.cell (e := (w.heap.size + 1, [.int .i64 (c), .int .i64 (d)])) (by simp) (i := 1) rfl
  have c20 : w3.cell? ⟨w.heap.size, 0, none⟩ = some (.int .i64 (a)) := H3.cell (e := (w.heap.size, [.int .i64 (a), .int .i64 (b)])) (by simp) (i := 0) rfl
  have c21 : w3.cell? ⟨w.heap.size, 1, none⟩ = some (.int .i64 (b)) := H3.cell (e := (w.heap.size, [.int .i64 (a), .int .i64 (b)])) (by simp) (i := 1) rfl
  have f0 : ∀ i, w3.frozen? ⟨w.heap.size + 1 + 1, i, none⟩ = false := H3.free (w.heap.size + 1 + 1, [.int .i64 (0), .int .i64 (0)]) (by simp)
  have z0 : w.heap.size + 1 + 1 < w3.heap.size := H3.size (e := (w.heap.size + 1 + 1, [.int .i64 (0), .int .i64 (0)])) (by simp)
  clear hB
  go_wp2_with fail
  refine bodyPost_ret (v := .tuple #[.agg #[.int .i64 (foldLo (a + c) (b + d)), .int .i64 (foldHi (a + c) (b + d))], .bool true]) (by simp [results, Try.results9, go_sem, cell_set, c00, c01]) rfl ⟨rfl, ?_⟩
  repeat (first | exact H3.below | refine Below.drew ?_ | refine Below.setCell ?_ (by simp; try omega) _)

set_option maxRecDepth 10000 in
set_option maxHeartbeats 4000000 in
theorem itvDoI_2 (a b c d : Int) (w : World) (hab : itvOk a b = true) (hcd : itvOk c d = true) :
    Calls Try.prog 9 #[.int .i64 2, .agg #[.int .i64 a, .int .i64 b], .agg #[.int .i64 c, .int .i64 d]] w fun e w' => e = .returned (.tuple #[.agg #[.int .i64 (foldLo (a - d) (b - c)), .int .i64 (foldHi (a - d) (b - c))], .bool true]) ∧ Below w.heap.size w w' := by
  obtain ⟨ha, hb0, hl1⟩ := itvOk_of hab
  obtain ⟨hc0, hd, hl2⟩ := itvOk_of hcd
  have a1 := ok_lo ha
  have a2 := ok_hi ha
  have a3 := ok_lo hb0
  have a4 := ok_hi hb0
  have a5 := ok_lo hc0
  have a6 := ok_hi hc0
  have a7 := ok_lo hd
  have a8 := ok_hi hd
  clear ha hb0 hc0 hd
  go_enter Try.func9, Try.ntmps9
  go_wp2_with fail
  refine (itvOkI _ _ _).mono ?_
  rintro e w1 ⟨rfl, hB⟩
  have H1 := HeldL.next hB (held3 w (.int .i64 (a)) (.int .i64 (b)) (.int .i64 (c)) (.int .i64 (d)) (.int .i64 0) (.int .i64 0) 24)
  have c00 : w1.cell? ⟨w.heap.size + 1 + 1, 0, none⟩ = some (.int .i64 (0)) := H1.cell (e := (w.heap.size + 1 + 1, [.int .i64 (0), .int .i64 (0)])) (by simp) (i := 0) rfl
  have c01 : w1.cell? ⟨w.heap.size + 1 + 1, 1, none⟩ = some (.int .i64 (0)) := H1.cell (e := (w.heap.size + 1 + 1, [.int .i64 (0), .int .i64 (0)])) (by simp) (i := 1) rfl
  have c10 : w1.cell? ⟨w.heap.size + 1, 0, none⟩ = some (.int .i64 (c)) := H1.cell (e := (w.heap.size + 1, [.int .i64 (c), .int .i64 (d)])) (by simp) (i := 0) rfl
  have c11 : w1.cell? ⟨w.heap.size + 1, 1, none⟩ = some (.int .i64 (d)) := H1.cell (e := (w.heap.size + 1, [.int .i64 (c), .int .i64 (d)])) (by simp) (i := 1) rfl
  have c20 : w1.cell? ⟨w.heap.size, 0, none⟩ = some (.int .i64 (a)) := H1.cell (e := (w.heap.size, [.int .i64 (a), .int .i64 (b)])) (by simp) (i := 0) rfl
  have c21 : w1.cell? ⟨w.heap.size, 1, none⟩ = some (.int .i64 (b)) := H1.cell (e := (w.heap.size, [.int .i64 (a), .int .i64 (b)])) (by simp) (i := 1) rfl
  have f0 : ∀ i, w1.frozen? ⟨w.heap.size + 1 + 1, i, none⟩ = false := H1.free (w.heap.size + 1 + 1, [.int .i64 (0), .int .i64 (0)]) (by simp)
  have z0 : w.heap.size + 1 + 1 < w1.heap.size := H1.size (e := (w.heap.size + 1 + 1, [.int .i64 (0), .int .i64 (0)])) (by simp)
  clear hB
  go_wp2_with fail
  refine (itvOkI _ _ _).mono ?_
  rintro e w2 ⟨rfl, hB⟩
  have H2 := HeldL.next hB H1
  clear c00 c01 c10 c11 c20 c21 f0 z0
  have c00 : w2.cell? ⟨w.heap.size + 1 + 1, 0, none⟩ = some (.int .i64 (0)) := H2.cell (e := (w.heap.size + 1 + 1, [.int .i64 (0), .int .i64 (0)])) (by simp) (i := 0) rfl
  have c01 : w2.cell? ⟨w.heap.size + 1 + 1, 1, none⟩ = some (.int .i64 (0)) := H2.cell (e := (w.heap.size + 1 + 1, [.int .i64 (0), .int .i64 (0)])) (by simp) (i := 1) rfl
  have c10 : w2.cell? ⟨w.heap.size + 1, 0, none⟩ = some (.int .i64 (c)) := H2.cell (e := (w.heap.size + 1, [.int .i64 (c), .int .i64 (d)])) (by simp) (i := 0) rfl
  have c11 : w2.cell? ⟨w.heap.size + 1, 1, none⟩ = some (.int .i64 (d)) := H2.cell (e := (w.heap.size + 1, [.int .i64 (c), .int .i64 (d)])) (by simp) (i := 1) rfl
  have c20 : w2.cell? ⟨w.heap.size, 0, none⟩ = some (.int .i64 (a)) := H2.cell (e := (w.heap.size, [.int .i64 (a), .int .i64 (b)])) (by simp) (i := 0) rfl
  have c21 : w2.cell? ⟨w.heap.size, 1, none⟩ = some (.int .i64 (b)) := H2.cell (e := (w.heap.size, [.int .i64 (a), .int .i64 (b)])) (by simp) (i := 1) rfl
  have f0 : ∀ i, w2.frozen? ⟨w.heap.size + 1 + 1, i, none⟩ = false := H2.free (w.heap.size + 1 + 1, [.int .i64 (0), .int .i64 (0)]) (by simp)
  have z0 : w.heap.size + 1 + 1 < w2.heap.size := H2.size (e := (w.heap.size + 1 + 1, [.int .i64 (0), .int .i64 (0)])) (by simp)
  clear hB
  have K : ∀ j, j < 1 + 1 → (w2.alloc (.cells #[.int .i64 (a - d), .int .i64 (b - c)] 3)).cell? ⟨w2.heap.size, j, none⟩ = some (.int .i64 (([a - d, b - c] : List Int).getD j 0)) := by
    intro j hj
    match j, hj with
    | 0, _ => simp
    | 1, _ => simp
    | m + 2, hj => omega
  go_wp2_with (first | (go_at_call 36; refine (minI w2.heap.size 1 2 (fun j => ([a - d, b - c] : List Int).getD j 0) _ (by omega) K).mono ?_; rintro e w' ⟨rfl, rfl⟩) | (go_at_call 37; refine (maxI w2.heap.size 1 2 (fun j => ([a - d, b - c] : List Int).getD j 0) _ (by omega) K).mono ?_; rintro e w' ⟨rfl, rfl⟩))
  refine (foldI_eq (a - d) (b - c) _ ((mn2 _ _).trans (by omega)) ((mx2 _ _).trans (by omega))).mono ?_
  rintro e w3 ⟨rfl, hB⟩
  have H3 := HeldL.next hB (H2.alloc _)
  clear c00 c01 c10 c11 c20 c21 f0 z0
  have c00 : w3.cell? ⟨w.heap.size + 1 + 1, 0, none⟩ = some (.int .i64 (0)) := H3.cell (e := (w.heap.size + 1 + 1, [.int .i64 (0), .int .i64 (0)])) (by simp) (i := 0) rfl
  have c01 : w3.cell? ⟨w.heap.size + 1 + 1, 1, none⟩ = some (.int .i64 (0)) := H3.cell (e := (w.heap.size + 1 + 1, [.int .i64 (0), .int .i64 (0)])) (by simp) (i := 1) rfl
  have c10 : w3.cell? ⟨w.heap.size + 1, 0, none⟩ = some (.int .i64 (c)) := H3.cell (e := (w.heap.size + 1, [.int .i64 (c), .int .i64 (d)])) (by simp) (i := 0) rfl
  have c11 : w3.cell? ⟨w.heap.size + 1, 1, none⟩ = some (.int .i64 (d)) := H3.cell (e := (w.heap.size + 1, [.int .i64 (c), .int .i64 (d)])) (by simp) (i := 1) rfl
  have c20 : w3.cell? ⟨w.heap.size, 0, none⟩ = some (.int .i64 (a)) := H3.cell (e := (w.heap.size, [.int .i64 (a), .int .i64 (b)])) (by simp) (i := 0) rfl
  have c21 : w3.cell? ⟨w.heap.size, 1, none⟩ = some (.int .i64 (b)) := H3.cell (e := (w.heap.size, [.int .i64 (a), .int .i64 (b)])) (by simp) (i := 1) rfl
  have f0 : ∀ i, w3.frozen? ⟨w.heap.size + 1 + 1, i, none⟩ = false := H3.free (w.heap.size + 1 + 1, [.int .i64 (0), .int .i64 (0)]) (by simp)
  have z0 : w.heap.size + 1 + 1 < w3.heap.size := H3.size (e := (w.heap.size + 1 + 1, [.int .i64 (0), .int .i64 (0)])) (by simp)
  clear hB
  go_wp2_with fail
  refine bodyPost_ret (v := .tuple #[.agg #[.int .i64 (foldLo (a - d) (b - c)), .int .i64 (foldHi (a - d) (b - c))], .bool true]) (by simp [results, Try.results9, go_sem, cell_set, c00, c01]) rfl ⟨rfl, ?_⟩
  repeat (first | exact H3.below | refine Below.drew ?_ | refine Below.setCell ?_ (by simp; try omega) _)

set_option maxRecDepth 10000 in
set_option maxHeartbeats 4000000 in
theorem itvDoI_3 (a b c d : Int) (w : World) (hab : itvOk a b = true) (hcd : itvOk c d = true) :
    Calls Try.prog 9 #[.int .i64 3, .agg #[.int .i64 a, .int .i64 b], .agg #[.int .i64 c, .int .i64 d]] w fun e w' => e = .returned (.tuple #[.agg #[.int .i64 (foldLo (spanLo (a * c) (a * d) (b * c) (b * d)) (spanHi (a * c) (a * d) (b * c) (b * d))), .int .i64 (foldHi (spanLo (a * c) (a * d) (b * c) (b * d)) (spanHi (a * c) (a * d) (b * c) (b * d)))], .bool true]) ∧ Below w.heap.size w w' := by
  obtain ⟨ha, hb0, hl1⟩ := itvOk_of hab
  obtain ⟨hc0, hd, hl2⟩ := itvOk_of hcd
  have a1 := ok_lo ha
  have a2 := ok_hi ha
  have a3 := ok_lo hb0
  have a4 := ok_hi hb0
  have a5 := ok_lo hc0
  have a6 := ok_hi hc0
  have a7 := ok_lo hd
  have a8 := ok_hi hd
  clear ha hb0 hc0 hd
  have m1 := mul64 a1 a2 a5 a6
  have m2 := mul64 a1 a2 a7 a8
  have m3 := mul64 a3 a4 a5 a6
  have m4 := mul64 a3 a4 a7 a8
  go_enter Try.func9, Try.ntmps9
  go_wp2_with fail
  refine (itvOkI _ _ _).mono ?_
  rintro e w1 ⟨rfl, hB⟩
  have H1 := HeldL.next hB (held3 w (.int .i64 (a)) (.int .i64 (b)) (.int .i64 (c)) (.int .i64 (d)) (.int .i64 0) (.int .i64 0) 24)
  have c00 : w1.cell? ⟨w.heap.size + 1 + 1, 0, none⟩ = some (.int .i64 (0)) := H1.cell (e := (w.heap.size + 1 + 1, [.int .i64 (0), .int .i64 (0)])) (by simp) (i := 0) rfl
  have c01 : w1.cell? ⟨w.heap.size + 1 + 1, 1, none⟩ = some (.int .i64 (0)) := H1.cell (e := (w.heap.size + 1 + 1, [.int .i64 (0), .int .i64 (0)])) (by simp) (i := 1) rfl
  have c10 : w1.cell? ⟨w.heap.size + 1, 0, none⟩ = some (.int .i64 (c)) := H1.cell (e := (w.heap.size + 1, [.int .i64 (c), .int .i64 (d)])) (by simp) (i := 0) rfl
  have c11 : w1.cell? ⟨w.heap.size + 1, 1, none⟩ = some (.int .i64 (d)) := H1.cell (e := (w.heap.size + 1, [.int .i64 (c), .int .i64 (d)])) (by simp) (i := 1) rfl
  have c20 : w1.cell? ⟨w.heap.size, 0, none⟩ = some (.int .i64 (a)) := H1.cell (e := (w.heap.size, [.int .i64 (a), .int .i64 (b)])) (by simp) (i := 0) rfl
  have c21 : w1.cell? ⟨w.heap.size, 1, none⟩ = some (.int .i64 (b)) := H1.cell (e := (w.heap.size, [.int .i64 (a), .int .i64 (b)])) (by simp) (i := 1) rfl
  have f0 : ∀ i, w1.frozen? ⟨w.heap.size + 1 + 1, i, none⟩ = false := H1.free (w.heap.size + 1 + 1, [.int .i64 (0), .int .i64 (0)]) (by simp)
  have z0 : w.heap.size + 1 + 1 < w1.heap.size := H1.size (e := (w.heap.size + 1 + 1, [.int .i64 (0), .int .i64 (0)])) (by simp)
  clear hB
  go_wp2_with fail
  refine (itvOkI _ _ _).mono ?_
  rintro e w2 ⟨rfl, hB⟩
  have H2 := HeldL.next hB H1
  clear c00 c01 c10 c11 c20 c21 f0 z0
  have c00 : w2.cell? ⟨w.heap.size + 1 + 1, 0, none⟩ = some (.int .i64 (0)) := H2.cell (e := (w.heap.size + 1 + 1, [.int .i64 (0), .int .i64 (0)])) (by simp) (i := 0) rfl
  have c01 : w2.cell? ⟨w.heap.size + 1 + 1, 1, none⟩ = some (.int .i64 (0)) := H2.cell (e := (w.heap.size + 1 + 1, [.int .i64 (0), .int .i64 (0)])) (by simp) (i := 1) rfl
  have c10 : w2.cell? ⟨w.heap.size + 1, 0, none⟩ = some (.int .i64 (c)) := H2.cell (e := (w.heap.size + 1, [.int .i64 (c), .int .i64 (d)])) (by simp) (i := 0) rfl
  have c11 : w2.cell? ⟨w.heap.size + 1, 1, none⟩ = some (.int .i64 (d)) := H2.cell (e := (w.heap.size + 1, [.int .i64 (c), .int .i64 (d)])) (by simp) (i := 1) rfl
  have c20 : w2.cell? ⟨w.heap.size, 0, none⟩ = some (.int .i64 (a)) := H2.cell (e := (w.heap.size, [.int .i64 (a), .int .i64 (b)])) (by simp) (i := 0) rfl
  have c21 : w2.cell? ⟨w.heap.size, 1, none⟩ = some (.int .i64 (b)) := H2.cell (e := (w.heap.size, [.int .i64 (a), .int .i64 (b)])) (by simp) (i := 1) rfl
  have f0 : ∀ i, w2.frozen? ⟨w.heap.size + 1 + 1, i, none⟩ = false := H2.free (w.heap.size + 1 + 1, [.int .i64 (0), .int .i64 (0)]) (by simp)
  have z0 : w.heap.size + 1 + 1 < w2.heap.size := H2.size (e := (w.heap.size + 1 + 1, [.int .i64 (0), .int .i64 (0)])) (by simp)
  clear hB
  have K : ∀ j, j < 3 + 1 → (w2.alloc (.cells #[.int .i64 (a * c), .int .i64 (a * d), .int .i64 (b * c), .int .i64 (b * d)] 3)).cell? ⟨w2.heap.size, j, none⟩ = some (.int .i64 (([a * c, a * d, b * c, b * d] : List Int).getD j 0)) := by
    intro j hj
    match j, hj with
    | 0, _ => simp
    | 1, _ => simp
    | 2, _ => simp
    | 3, _ => simp
    | m + 4, hj => omega
  go_wp2_with (first | (go_at_call 36; refine (minI w2.heap.size 3 4 (fun j => ([a * c, a * d, b * c, b * d] : List Int).getD j 0) _ (by omega) K).mono ?_; rintro e w' ⟨rfl, rfl⟩) | (go_at_call 37; refine (maxI w2.heap.size 3 4 (fun j => ([a * c, a * d, b * c, b * d] : List Int).getD j 0) _ (by omega) K).mono ?_; rintro e w' ⟨rfl, rfl⟩))
  refine (foldI_eq (spanLo (a * c) (a * d) (b * c) (b * d)) (spanHi (a * c) (a * d) (b * c) (b * d)) _ (mn4s _ _ _ _) (mx4s _ _ _ _)).mono ?_
  rintro e w3 ⟨rfl, hB⟩
  have H3 := HeldL.next hB (H2.alloc _)
  clear c00 c01 c10 c11 c20 c21 f0 z0
  have c00 : w3.cell? ⟨w.heap.size + 1 + 1, 0, none⟩ = some (.int .i64 (0)) := H3.cell (e := (w.heap.size + 1 + 1, [.int .i64 (0), .int .i64 (0)])) (by simp) (i := 0) rfl
  have c01 : w3.cell? ⟨w.heap.size + 1 + 1, 1, none⟩ = some (.int .i64 (0)) := H3.cell (e := (w.heap.size + 1 + 1, [.int .i64 (0), .int .i64 (0)])) (by simp) (i := 1) rfl
  have c10 : w3.cell? ⟨w.heap.size + 1, 0, none⟩ = some (.int .i64 (c)) := H3.cell (e := (w.heap.size + 1, [.int .i64 (c), .int .i64 (d)])) (by simp) (i := 0) rfl
  have c11 : w3.cell? ⟨w.heap.size + 1, 1, none⟩ = some (.int .i64 (d)) := H3.cell (e := (w.heap.size + 1, [.int .i64 (c), .int .i64 (d)])) (by simp) (i := 1) rfl
  have c20 : w3.cell? ⟨w.heap.size, 0, none⟩ = some (.int .i64 (a)) := H3.cell (e := (w.heap.size, [.int .i64 (a), .int .i64 (b)])) (by simp) (i := 0) rfl
  have c21 : w3.cell? ⟨w.heap.size, 1, none⟩ = some (.int .i64 (b)) := H3.cell (e := (w.heap.size, [.int .i64 (a), .int .i64 (b)])) (by simp) (i := 1) rfl
  have f0 : ∀ i, w3.frozen? ⟨w.heap.size + 1 + 1, i, none⟩ = false := H3.free (w.heap.size + 1 + 1, [.int .i64 (0), .int .i64 (0)]) (by simp)
  have z0 : w.heap.size + 1 + 1 < w3.heap.size := H3.size (e := (w.heap.size + 1 + 1, [.int .i64 (0), .int .i64 (0)])) (by simp)
  clear hB
  go_wp2_with fail
  refine bodyPost_ret (v := .tuple #[.agg #[.int .i64 (foldLo (spanLo (a * c) (a * d) (b * c) (b * d)) (spanHi (a * c) (a * d) (b * c) (b * d))), .int .i64 (foldHi (spanLo (a * c) (a * d) (b * c) (b * d)) (spanHi (a * c) (a * d) (b * c) (b * d)))], .bool true]) (by simp [results, Try.results9, go_sem, cell_set, c00, c01]) rfl ⟨rfl, ?_⟩
  repeat (first | exact H3.below | refine Below.drew ?_ | refine Below.setCell ?_ (by simp; try omega) _)

set_option maxRecDepth 10000 in
set_option maxHeartbeats 4000000 in
theorem itvDoI_4 (a b c d : Int) (w : World) (hab : itvOk a b = true) (hcd : itvOk c d = true) (hn : ¬ (c = 0 ∧ d = 0)) :
    Calls Try.prog 9 #[.int .i64 4, .agg #[.int .i64 a, .int .i64 b], .agg #[.int .i64 c, .int .i64 d]] w fun e w' => e = .returned (.tuple #[.agg #[.int .i64 (foldLo (divLo a b c d) (divHi a b c d)), .int .i64 (foldHi (divLo a b c d) (divHi a b c d))], .bool true]) ∧ Below w.heap.size w w' := by
  obtain ⟨ha, hb0, hl1⟩ := itvOk_of hab
  obtain ⟨hc0, hd, hl2⟩ := itvOk_of hcd
  have a1 := ok_lo ha
  have a2 := ok_hi ha
  have a3 := ok_lo hb0
  have a4 := ok_hi hb0
  have a5 := ok_lo hc0
  have a6 := ok_hi hc0
  have a7 := ok_lo hd
  have a8 := ok_hi hd
  clear ha hb0 hc0 hd
  go_enter Try.func9, Try.ntmps9
  go_wp2_with fail
  refine (itvOkI _ _ _).mono ?_
  rintro e w1 ⟨rfl, hB⟩
  have H1 := HeldL.next hB (held3 w (.int .i64 (a)) (.int .i64 (b)) (.int .i64 (c)) (.int .i64 (d)) (.int .i64 0) (.int .i64 0) 24)
  have c00 : w1.cell? ⟨w.heap.size + 1 + 1, 0, none⟩ = some (.int .i64 (0)) := H1.cell (e := (w.heap.size + 1 + 1, [.int .i64 (0), .int .i64 (0)])) (by simp) (i := 0) rfl
  have c01 : w1.cell? ⟨w.heap.size + 1 + 1, 1, none⟩ = some (.int .i64 (0)) := H1.cell (e := (w.heap.size + 1 + 1, [.int .i64 (0), .int .i64 (0)])) (by simp) (i := 1) rfl
  have c10 : w1.cell? ⟨w.heap.size + 1, 0, none⟩ = some (.int .i64 (c)) := H1.cell (e := (w.heap.size + 1, [.int .i64 (c), .int .i64 (d)])) (by simp) (i := 0) rfl
  have c11 : w1.cell? ⟨w.heap.size + 1, 1, none⟩ = some (.int .i64 (d)) := H1.cell (e := (w.heap.size + 1, [.int .i64 (c), .int .i64 (d)])) (by simp) (i := 1) rfl
  have c20 : w1.cell? ⟨w.heap.size, 0, none⟩ = some (.int .i64 (a)) := H1.cell (e := (w.heap.size, [.int .i64 (a), .int .i64 (b)])) (by simp) (i := 0) rfl
  have c21 : w1.cell? ⟨w.heap.size, 1, none⟩ = some (.int .i64 (b)) := H1.cell (e := (w.heap.size, [.int .i64 (a), .int .i64 (b)])) (by simp) (i := 1) rfl
  have f0 : ∀ i, w1.frozen? ⟨w.heap.size + 1 + 1, i, none⟩ = false := H1.free (w.heap.size + 1 + 1, [.int .i64 (0), .int .i64 (0)]) (by simp)
  have z0 : w.heap.size + 1 + 1 < w1.heap.size := H1.size (e := (w.heap.size + 1 + 1, [.int .i64 (0), .int .i64 (0)])) (by simp)
  clear hB
  go_wp2_with fail
  refine (itvOkI _ _ _).mono ?_
  rintro e w2 ⟨rfl, hB⟩
  have H2 := HeldL.next hB H1
  clear c00 c01 c10 c11 c20 c21 f0 z0
  have c00 : w2.cell? ⟨w.heap.size + 1 + 1, 0, none⟩ = some (.int .i64 (0)) := H2.cell (e := (w.heap.size + 1 + 1, [.int .i64 (0), .int .i64 (0)])) (by simp) (i := 0) rfl
  have c01 : w2.cell? ⟨w.heap.size + 1 + 1, 1, none⟩ = some (.int .i64 (0)) := H2.cell (e := (w.heap.size + 1 + 1, [.int .i64 (0), .int .i64 (0)])) (by simp) (i := 1) rfl
  have c10 : w2.cell? ⟨w.heap.size + 1, 0, none⟩ = some (.int .i64 (c)) := H2.cell (e := (w.heap.size + 1, [.int .i64 (c), .int .i64 (d)])) (by simp) (i := 0) rfl
  have c11 : w2.cell? ⟨w.heap.size + 1, 1, none⟩ = some (.int .i64 (d)) := H2.cell (e := (w.heap.size + 1, [.int .i64 (c), .int .i64 (d)])) (by simp) (i := 1) rfl
  have c20 : w2.cell? ⟨w.heap.size, 0, none⟩ = some (.int .i64 (a)) := H2.cell (e := (w.heap.size, [.int .i64 (a), .int .i64 (b)])) (by simp) (i := 0) rfl
  have c21 : w2.cell? ⟨w.heap.size, 1, none⟩ = some (.int .i64 (b)) := H2.cell (e := (w.heap.size, [.int .i64 (a), .int .i64 (b)])) (by simp) (i := 1) rfl
  have f0 : ∀ i, w2.frozen? ⟨w.heap.size + 1 + 1, i, none⟩ = false := H2.free (w.heap.size + 1 + 1, [.int .i64 (0), .int .i64 (0)]) (by simp)
  have z0 : w.heap.size + 1 + 1 < w2.heap.size := H2.size (e := (w.heap.size + 1 + 1, [.int .i64 (0), .int .i64 (0)])) (by simp)
  clear hB
  obtain ⟨n, hl, hn8, hlo, hhi⟩ := quot_ends (a := a) (b := b) hl2 hn
  have HL : Hid (mnUp (fun j => (qs a b (dvs c d)).getD j 0) n = divLo a b c d) := hlo
  have HH : Hid (mxUp (fun j => (qs a b (dvs c d)).getD j 0) n = divHi a b c d) := hhi
  have HN : Hid ((qs a b (dvs c d)).length = n + 1) := hl
  clear hlo hhi hl
  go_wp2_with fail
  refine (quotsI _ _ _ _ _ a1 a2 a3 a4 hl2 a5 a8 hn).mono ?_
  rintro e w3 ⟨v, rfl, O, hB⟩
  have H3 := HeldL.next hB H2
  clear c00 c01 c10 c11 c20 c21 f0 z0
  have c00 : w3.cell? ⟨w.heap.size + 1 + 1, 0, none⟩ = some (.int .i64 (0)) := H3.cell (e := (w.heap.size + 1 + 1, [.int .i64 (0), .int .i64 (0)])) (by simp) (i := 0) rfl
  have c01 : w3.cell? ⟨w.heap.size + 1 + 1, 1, none⟩ = some (.int .i64 (0)) := H3.cell (e := (w.heap.size + 1 + 1, [.int .i64 (0), .int .i64 (0)])) (by simp) (i := 1) rfl
  have c10 : w3.cell? ⟨w.heap.size + 1, 0, none⟩ = some (.int .i64 (c)) := H3.cell (e := (w.heap.size + 1, [.int .i64 (c), .int .i64 (d)])) (by simp) (i := 0) rfl
  have c11 : w3.cell? ⟨w.heap.size + 1, 1, none⟩ = some (.int .i64 (d)) := H3.cell (e := (w.heap.size + 1, [.int .i64 (c), .int .i64 (d)])) (by simp) (i := 1) rfl
  have c20 : w3.cell? ⟨w.heap.size, 0, none⟩ = some (.int .i64 (a)) := H3.cell (e := (w.heap.size, [.int .i64 (a), .int .i64 (b)])) (by simp) (i := 0) rfl
  have c21 : w3.cell? ⟨w.heap.size, 1, none⟩ = some (.int .i64 (b)) := H3.cell (e := (w.heap.size, [.int .i64 (a), .int .i64 (b)])) (by simp) (i := 1) rfl
  have f0 : ∀ i, w3.frozen? ⟨w.heap.size + 1 + 1, i, none⟩ = false := H3.free (w.heap.size + 1 + 1, [.int .i64 (0), .int .i64 (0)]) (by simp)
  have z0 : w.heap.size + 1 + 1 < w3.heap.size := H3.size (e := (w.heap.size + 1 + 1, [.int .i64 (0), .int .i64 (0)])) (by simp)
  clear hB
  obtain ⟨g, cap, rfl, hg1, hg2, K, _, _⟩ := O.form (by intro x; have := (show (qs a b (dvs c d)).length = n + 1 from HN); rw [x] at this; simp at this)
  rw [show (qs a b (dvs c d)).length = n + 1 from HN] at K ⊢
  clear O
  go_wp2_with (first | (go_at_call 36; refine (minI g n cap (fun j => (qs a b (dvs c d)).getD j 0) _ (by omega) K).mono ?_; rintro e w' ⟨rfl, rfl⟩) | (go_at_call 37; refine (maxI g n cap (fun j => (qs a b (dvs c d)).getD j 0) _ (by omega) K).mono ?_; rintro e w' ⟨rfl, rfl⟩))
  refine (foldI_eq (divLo a b c d) (divHi a b c d) _ HL HH).mono ?_
  rintro e w4 ⟨rfl, hB⟩
  have H4 := HeldL.next hB H3
  clear c00 c01 c10 c11 c20 c21 f0 z0
  have c00 : w4.cell? ⟨w.heap.size + 1 + 1, 0, none⟩ = some (.int .i64 (0)) := H4.cell (e := (w.heap.size + 1 + 1, [.int .i64 (0), .int .i64 (0)])) (by simp) (i := 0) rfl
  have c01 : w4.cell? ⟨w.heap.size + 1 + 1, 1, none⟩ = some (.int .i64 (0)) := H4.cell (e := (w.heap.size + 1 + 1, [.int .i64 (0), .int .i64 (0)])) (by simp) (i := 1) rfl
  have c10 : w4.cell? ⟨w.heap.size + 1, 0, none⟩ = some (.int .i64 (c)) := H4.cell (e := (w.heap.size + 1, [.int .i64 (c), .int .i64 (d)])) (by simp) (i := 0) rfl
  have c11 : w4.cell? ⟨w.heap.size + 1, 1, none⟩ = some (.int .i64 (d)) := H4.cell (e := (w.heap.size + 1, [.int .i64 (c), .int .i64 (d)])) (by simp) (i := 1) rfl
  have c20 : w4.cell? ⟨w.heap.size, 0, none⟩ = some (.int .i64 (a)) := H4.cell (e := (w.heap.size, [.int .i64 (a), .int .i64 (b)])) (by simp) (i := 0) rfl
  have c21 : w4.cell? ⟨w.heap.size, 1, none⟩ = some (.int .i64 (b)) := H4.cell (e := (w.heap.size, [.int .i64 (a), .int .i64 (b)])) (by simp) (i := 1) rfl
  have f0 : ∀ i, w4.frozen? ⟨w.heap.size + 1 + 1, i, none⟩ = false := H4.free (w.heap.size + 1 + 1, [.int .i64 (0), .int .i64 (0)]) (by simp)
  have z0 : w.heap.size + 1 + 1 < w4.heap.size := H4.size (e := (w.heap.size + 1 + 1, [.int .i64 (0), .int .i64 (0)])) (by simp)
  clear hB
  go_wp2_with fail
  refine bodyPost_ret (v := .tuple #[.agg #[.int .i64 (foldLo (divLo a b c d) (divHi a b c d)), .int .i64 (foldHi (divLo a b c d) (divHi a b c d))], .bool true]) (by simp [results, Try.results9, go_sem, cell_set, c00, c01]) rfl ⟨rfl, ?_⟩
  repeat (first | exact H4.below | refine Below.drew ?_ | refine Below.setCell ?_ (by simp; try omega) _)

theorem itvDoI (op a b c d : Int) (w : World) :
    Calls Try.prog 9 #[.int .i64 op, .agg #[.int .i64 a, .int .i64 b], .agg #[.int .i64 c, .int .i64 d]] w fun e w' => e = .returned (.tuple #[.agg #[.int .i64 (itvDoLo op a b c d), .int .i64 (itvDoHi op a b c d)], .bool (itvDoOk op a b c d)]) ∧ Below w.heap.size w w' := by
  cases hab : itvOk a b
  · have k : itvDoOk op a b c d = false := by simp [itvDoOk, two, hab]
    rw [itvDoLo, itvDoHi, k]
    exact itvDoI_na _ _ _ _ _ _ hab
  cases hcd : itvOk c d
  · have k : itvDoOk op a b c d = false := by simp [itvDoOk, two, hcd]
    rw [itvDoLo, itvDoHi, k]
    exact itvDoI_nb _ _ _ _ _ _ hab hcd
  by_cases h1 : op = 1
  · subst h1
    have k : itvDoOk 1 a b c d = true := by simp [itvDoOk, two, hab, hcd]
    rw [itvDoLo, itvDoHi, k]
    exact itvDoI_1 _ _ _ _ _ hab hcd
  by_cases h2 : op = 2
  · subst h2
    have k : itvDoOk 2 a b c d = true := by simp [itvDoOk, two, hab, hcd]
    rw [itvDoLo, itvDoHi, k]
    exact itvDoI_2 _ _ _ _ _ hab hcd
  by_cases h3 : op = 3
  · subst h3
    have k : itvDoOk 3 a b c d = true := by simp [itvDoOk, two, hab, hcd]
    rw [itvDoLo, itvDoHi, k]
    exact itvDoI_3 _ _ _ _ _ hab hcd
  by_cases h4 : op = 4
  · subst h4
    by_cases hz : c = 0 ∧ d = 0
    · obtain ⟨rfl, rfl⟩ := hz
      have k : itvDoOk 4 a b 0 0 = false := by simp [itvDoOk]
      rw [itvDoLo, itvDoHi, k]
      exact itvDoI_z _ _ _ hab
    · have k : itvDoOk 4 a b c d = true := by simp [itvDoOk, two, hab, hcd]; omega
      rw [itvDoLo, itvDoHi, k]
      exact itvDoI_4 _ _ _ _ _ hab hcd hz
  · have k : itvDoOk op a b c d = false := by simp [itvDoOk, h1, h2, h3, h4]
    rw [itvDoLo, itvDoHi, k]
    exact itvDoI_op _ _ _ _ _ _ hab hcd h1 h2 h3 h4
end Go.Proofs.Ytceanngbcolbaaa
