/- What of both can stand so to the other, the rest: the model's (S). -/
import Derived.Test.YtdpkbbbfnmneiaaItvRel
import Derived.WalkKit
import Derived.ProofKit
import Derived.OpenShut
import Derived.Below
namespace Go.Proofs.Ytdpkbbbfnmneiaa
open Go.ChangeShapes Go.WideShapes Go.ChangeAt Go.RowKit

theorem bothS_eq {a b c d : Int} (a' b' c' d' : Int) (w : World) (h : a = a' ∧ b = b' ∧ c = c' ∧ d = d') :
    Calls Try.prog 120 #[.agg #[.int .i64 a, .int .i64 b], .agg #[.int .i64 c, .int .i64 d]] w fun e w' => e = .returned (.tuple #[.agg #[.int .i64 (both a' b' c' d').l0, .int .i64 (both a' b' c' d').h0], .agg #[.int .i64 (both a' b' c' d').l1, .int .i64 (both a' b' c' d').h1], .bool (both a' b' c' d').ok]) ∧ Below w.heap.size w w' := by
  obtain ⟨rfl, rfl, rfl, rfl⟩ := h
  exact bothS _ _ _ _ _

set_option maxRecDepth 10000 in
set_option maxHeartbeats 4000000 in
theorem itvRelS_1 (a b c d : Int) (w : World) (hab : itvOk a b = true) (hcd : itvOk c d = true) :
    Calls Try.prog 101 #[.int .i64 1, .agg #[.int .i64 a, .int .i64 b], .agg #[.int .i64 c, .int .i64 d]] w fun e w' => e = .returned (.tuple #[.agg #[.int .i64 (both a (min b (d - 1)) (max c (a + 1)) d).l0, .int .i64 (both a (min b (d - 1)) (max c (a + 1)) d).h0], .agg #[.int .i64 (both a (min b (d - 1)) (max c (a + 1)) d).l1, .int .i64 (both a (min b (d - 1)) (max c (a + 1)) d).h1], .bool (both a (min b (d - 1)) (max c (a + 1)) d).ok]) ∧ Below w.heap.size w w' := by
  obtain ⟨ha, hb0, hl1⟩ := itvOk_of hab
  obtain ⟨hc0, hd, hl2⟩ := itvOk_of hcd
  have a1 := ok_lo ha
  have a2 := ok_hi ha
  have a3 := ok_lo hb0
  have a4 := ok_hi hb0
  have a5 := ok_lo hc0
  have a6 := ok_hi hc0
  have a7 := ok_lo hd
  have a8 := ok_hi hd
  clear ha hb0 hc0 hd
  go_enter Try.func101, Try.ntmps101
  go_wp2_with fail
  refine (itvOkS _ _ _).mono ?_
  rintro e w1 ⟨rfl, hB⟩
  have H1 := HeldL.next hB (held4 _ _ _ _ _ _ _ _ _ _)
  have c30 : w1.cell? ⟨w.heap.size + 1 + 1 + 1, 0, none⟩ = some (.int .i64 (0)) := H1.cell (e := (w.heap.size + 1 + 1 + 1, [.int .i64 (0), .int .i64 (0)])) (by simp) (i := 0) rfl
  have c31 : w1.cell? ⟨w.heap.size + 1 + 1 + 1, 1, none⟩ = some (.int .i64 (0)) := H1.cell (e := (w.heap.size + 1 + 1 + 1, [.int .i64 (0), .int .i64 (0)])) (by simp) (i := 1) rfl
  have c20 : w1.cell? ⟨w.heap.size + 1 + 1, 0, none⟩ = some (.int .i64 (0)) := H1.cell (e := (w.heap.size + 1 + 1, [.int .i64 (0), .int .i64 (0)])) (by simp) (i := 0) rfl
  have c21 : w1.cell? ⟨w.heap.size + 1 + 1, 1, none⟩ = some (.int .i64 (0)) := H1.cell (e := (w.heap.size + 1 + 1, [.int .i64 (0), .int .i64 (0)])) (by simp) (i := 1) rfl
  have c10 : w1.cell? ⟨w.heap.size + 1, 0, none⟩ = some (.int .i64 (c)) := H1.cell (e := (w.heap.size + 1, [.int .i64 (c), .int .i64 (d)])) (by simp) (i := 0) rfl
  have c11 : w1.cell? ⟨w.heap.size + 1, 1, none⟩ = some (.int .i64 (d)) := H1.cell (e := (w.heap.size + 1, [.int .i64 (c), .int .i64 (d)])) (by simp) (i := 1) rfl
  have c00 : w1.cell? ⟨w.heap.size, 0, none⟩ = some (.int .i64 (a)) := H1.cell (e := (w.heap.size, [.int .i64 (a), .int .i64 (b)])) (by simp) (i := 0) rfl
  have c01 : w1.cell? ⟨w.heap.size, 1, none⟩ = some (.int .i64 (b)) := H1.cell (e := (w.heap.size, [.int .i64 (a), .int .i64 (b)])) (by simp) (i := 1) rfl
  have f3 : ∀ i, w1.frozen? ⟨w.heap.size + 1 + 1 + 1, i, none⟩ = false := H1.free (w.heap.size + 1 + 1 + 1, [.int .i64 (0), .int .i64 (0)]) (by simp)
  have f2 : ∀ i, w1.frozen? ⟨w.heap.size + 1 + 1, i, none⟩ = false := H1.free (w.heap.size + 1 + 1, [.int .i64 (0), .int .i64 (0)]) (by simp)
  clear hB
  go_wp2_with fail
  refine (itvOkS _ _ _).mono ?_
  rintro e w2 ⟨rfl, hB⟩
  have H2 := HeldL.next hB H1
  clear c00 c01 c10 c11 c20 c21 c30 c31 f2 f3
  have c30 : w2.cell? ⟨w.heap.size + 1 + 1 + 1, 0, none⟩ = some (.int .i64 (0)) := H2.cell (e := (w.heap.size + 1 + 1 + 1, [.int .i64 (0), .int .i64 (0)])) (by simp) (i := 0) rfl
  have c31 : w2.cell? ⟨w.heap.size + 1 + 1 + 1, 1, none⟩ = some (.int .i64 (0)) := H2.cell (e := (w.heap.size + 1 + 1 + 1, [.int .i64 (0), .int .i64 (0)])) (by simp) (i := 1) rfl
  have c20 : w2.cell? ⟨w.heap.size + 1 + 1, 0, none⟩ = some (.int .i64 (0)) := H2.cell (e := (w.heap.size + 1 + 1, [.int .i64 (0), .int .i64 (0)])) (by simp) (i := 0) rfl
  have c21 : w2.cell? ⟨w.heap.size + 1 + 1, 1, none⟩ = some (.int .i64 (0)) := H2.cell (e := (w.heap.size + 1 + 1, [.int .i64 (0), .int .i64 (0)])) (by simp) (i := 1) rfl
  have c10 : w2.cell? ⟨w.heap.size + 1, 0, none⟩ = some (.int .i64 (c)) := H2.cell (e := (w.heap.size + 1, [.int .i64 (c), .int .i64 (d)])) (by simp) (i := 0) rfl
  have c11 : w2.cell? ⟨w.heap.size + 1, 1, none⟩ = some (.int .i64 (d)) := H2.cell (e := (w.heap.size + 1, [.int .i64 (c), .int .i64 (d)])) (by simp) (i := 1) rfl
  have c00 : w2.cell? ⟨w.heap.size, 0, none⟩ = some (.int .i64 (a)) := H2.cell (e := (w.heap.size, [.int .i64 (a), .int .i64 (b)])) (by simp) (i := 0) rfl
  have c01 : w2.cell? ⟨w.heap.size, 1, none⟩ = some (.int .i64 (b)) := H2.cell (e := (w.heap.size, [.int .i64 (a), .int .i64 (b)])) (by simp) (i := 1) rfl
  have f3 : ∀ i, w2.frozen? ⟨w.heap.size + 1 + 1 + 1, i, none⟩ = false := H2.free (w.heap.size + 1 + 1 + 1, [.int .i64 (0), .int .i64 (0)]) (by simp)
  have f2 : ∀ i, w2.frozen? ⟨w.heap.size + 1 + 1, i, none⟩ = false := H2.free (w.heap.size + 1 + 1, [.int .i64 (0), .int .i64 (0)]) (by simp)
  clear hB
  go_wp2_with fail
  all_goals
    refine (bothS_eq a (min b (d - 1)) (max c (a + 1)) d _ (by omega)).mono ?_
    rintro e w3 ⟨rfl, hB⟩
    have H3 := HeldL.next hB H2
    clear c00 c01 c10 c11 c20 c21 c30 c31 f2 f3
    have c30 : w3.cell? ⟨w.heap.size + 1 + 1 + 1, 0, none⟩ = some (.int .i64 (0)) := H3.cell (e := (w.heap.size + 1 + 1 + 1, [.int .i64 (0), .int .i64 (0)])) (by simp) (i := 0) rfl
    have c31 : w3.cell? ⟨w.heap.size + 1 + 1 + 1, 1, none⟩ = some (.int .i64 (0)) := H3.cell (e := (w.heap.size + 1 + 1 + 1, [.int .i64 (0), .int .i64 (0)])) (by simp) (i := 1) rfl
    have c20 : w3.cell? ⟨w.heap.size + 1 + 1, 0, none⟩ = some (.int .i64 (0)) := H3.cell (e := (w.heap.size + 1 + 1, [.int .i64 (0), .int .i64 (0)])) (by simp) (i := 0) rfl
    have c21 : w3.cell? ⟨w.heap.size + 1 + 1, 1, none⟩ = some (.int .i64 (0)) := H3.cell (e := (w.heap.size + 1 + 1, [.int .i64 (0), .int .i64 (0)])) (by simp) (i := 1) rfl
    have c10 : w3.cell? ⟨w.heap.size + 1, 0, none⟩ = some (.int .i64 (c)) := H3.cell (e := (w.heap.size + 1, [.int .i64 (c), .int .i64 (d)])) (by simp) (i := 0) rfl
    have c11 : w3.cell? ⟨w.heap.size + 1, 1, none⟩ = some (.int .i64 (d)) := H3.cell (e := (w.heap.size + 1, [.int .i64 (c), .int .i64 (d)])) (by simp) (i := 1) rfl
    have c00 : w3.cell? ⟨w.heap.size, 0, none⟩ = some (.int .i64 (a)) := H3.cell (e := (w.heap.size, [.int .i64 (a), .int .i64 (b)])) (by simp) (i := 0) rfl
    have c01 : w3.cell? ⟨w.heap.size, 1, none⟩ = some (.int .i64 (b)) := H3.cell (e := (w.heap.size, [.int .i64 (a), .int .i64 (b)])) (by simp) (i := 1) rfl
    have f3 : ∀ i, w3.frozen? ⟨w.heap.size + 1 + 1 + 1, i, none⟩ = false := H3.free (w.heap.size + 1 + 1 + 1, [.int .i64 (0), .int .i64 (0)]) (by simp)
    have f2 : ∀ i, w3.frozen? ⟨w.heap.size + 1 + 1, i, none⟩ = false := H3.free (w.heap.size + 1 + 1, [.int .i64 (0), .int .i64 (0)]) (by simp)
    clear hB
    go_wp2_with fail
    refine bodyPost_ret (v := .tuple #[.agg #[.int .i64 (both a (min b (d - 1)) (max c (a + 1)) d).l0, .int .i64 (both a (min b (d - 1)) (max c (a + 1)) d).h0], .agg #[.int .i64 (both a (min b (d - 1)) (max c (a + 1)) d).l1, .int .i64 (both a (min b (d - 1)) (max c (a + 1)) d).h1], .bool (both a (min b (d - 1)) (max c (a + 1)) d).ok]) (by simp [results, Try.results101, go_sem, cell_set, c20, c21, c30, c31]) rfl ⟨rfl, ?_⟩
    repeat (first | exact H3.below | refine Below.drew ?_ | refine Below.setCell ?_ (by simp; try omega) _)

set_option maxRecDepth 10000 in
set_option maxHeartbeats 4000000 in
theorem itvRelS_2 (a b c d : Int) (w : World) (hab : itvOk a b = true) (hcd : itvOk c d = true) :
    Calls Try.prog 101 #[.int .i64 2, .agg #[.int .i64 a, .int .i64 b], .agg #[.int .i64 c, .int .i64 d]] w fun e w' => e = .returned (.tuple #[.agg #[.int .i64 (both a (min b d) (max c a) d).l0, .int .i64 (both a (min b d) (max c a) d).h0], .agg #[.int .i64 (both a (min b d) (max c a) d).l1, .int .i64 (both a (min b d) (max c a) d).h1], .bool (both a (min b d) (max c a) d).ok]) ∧ Below w.heap.size w w' := by
  obtain ⟨ha, hb0, hl1⟩ := itvOk_of hab
  obtain ⟨hc0, hd, hl2⟩ := itvOk_of hcd
  have a1 := ok_lo ha
  have a2 := ok_hi ha
  have a3 := ok_lo hb0
  have a4 := ok_hi hb0
  have a5 := ok_lo hc0
  have a6 := ok_hi hc0
  have a7 := ok_lo hd
  have a8 := ok_hi hd
  clear ha hb0 hc0 hd
  go_enter Try.func101, Try.ntmps101
  go_wp2_with fail
  refine (itvOkS _ _ _).mono ?_
  rintro e w1 ⟨rfl, hB⟩
  have H1 := HeldL.next hB (held4 _ _ _ _ _ _ _ _ _ _)
  have c30 : w1.cell? ⟨w.heap.size + 1 + 1 + 1, 0, none⟩ = some (.int .i64 (0)) := H1.cell (e := (w.heap.size + 1 + 1 + 1, [.int .i64 (0), .int .i64 (0)])) (by simp) (i := 0) rfl
  have c31 : w1.cell? ⟨w.heap.size + 1 + 1 + 1, 1, none⟩ = some (.int .i64 (0)) := H1.cell (e := (w.heap.size + 1 + 1 + 1, [.int .i64 (0), .int .i64 (0)])) (by simp) (i := 1) rfl
  have c20 : w1.cell? ⟨w.heap.size + 1 + 1, 0, none⟩ = some (.int .i64 (0)) := H1.cell (e := (w.heap.size + 1 + 1, [.int .i64 (0), .int .i64 (0)])) (by simp) (i := 0) rfl
  have c21 : w1.cell? ⟨w.heap.size + 1 + 1, 1, none⟩ = some (.int .i64 (0)) := H1.cell (e := (w.heap.size + 1 + 1, [.int .i64 (0), .int .i64 (0)])) (by simp) (i := 1) rfl
  have c10 : w1.cell? ⟨w.heap.size + 1, 0, none⟩ = some (.int .i64 (c)) := H1.cell (e := (w.heap.size + 1, [.int .i64 (c), .int .i64 (d)])) (by simp) (i := 0) rfl
  have c11 : w1.cell? ⟨w.heap.size + 1, 1, none⟩ = some (.int .i64 (d)) := H1.cell (e := (w.heap.size + 1, [.int .i64 (c), .int .i64 (d)])) (by simp) (i := 1) rfl
  have c00 : w1.cell? ⟨w.heap.size, 0, none⟩ = some (.int .i64 (a)) := H1.cell (e := (w.heap.size, [.int .i64 (a), .int .i64 (b)])) (by simp) (i := 0) rfl
  have c01 : w1.cell? ⟨w.heap.size, 1, none⟩ = some (.int .i64 (b)) := H1.cell (e := (w.heap.size, [.int .i64 (a), .int .i64 (b)])) (by simp) (i := 1) rfl
  have f3 : ∀ i, w1.frozen? ⟨w.heap.size + 1 + 1 + 1, i, none⟩ = false := H1.free (w.heap.size + 1 + 1 + 1, [.int .i64 (0), .int .i64 (0)]) (by simp)
  have f2 : ∀ i, w1.frozen? ⟨w.heap.size + 1 + 1, i, none⟩ = false := H1.free (w.heap.size + 1 + 1, [.int .i64 (0), .int .i64 (0)]) (by simp)
  clear hB
  go_wp2_with fail
  refine (itvOkS _ _ _).mono ?_
  rintro e w2 ⟨rfl, hB⟩
  have H2 := HeldL.next hB H1
  clear c00 c01 c10 c11 c20 c21 c30 c31 f2 f3
  have c30 : w2.cell? ⟨w.heap.size + 1 + 1 + 1, 0, none⟩ = some (.int .i64 (0)) := H2.cell (e := (w.heap.size + 1 + 1 + 1, [.int .i64 (0), .int .i64 (0)])) (by simp) (i := 0) rfl
  have c31 : w2.cell? ⟨w.heap.size + 1 + 1 + 1, 1, none⟩ = some (.int .i64 (0)) := H2.cell (e := (w.heap.size + 1 + 1 + 1, [.int .i64 (0), .int .i64 (0)])) (by simp) (i := 1) rfl
  have c20 : w2.cell? ⟨w.heap.size + 1 + 1, 0, none⟩ = some (.int .i64 (0)) := H2.cell (e := (w.heap.size + 1 + 1, [.int .i64 (0), .int .i64 (0)])) (by simp) (i := 0) rfl
  have c21 : w2.cell? ⟨w.heap.size + 1 + 1, 1, none⟩ = some (.int .i64 (0)) := H2.cell (e := (w.heap.size + 1 + 1, [.int .i64 (0), .int .i64 (0)])) (by simp) (i := 1) rfl
  have c10 : w2.cell? ⟨w.heap.size + 1, 0, none⟩ = some (.int .i64 (c)) := H2.cell (e := (w.heap.size + 1, [.int .i64 (c), .int .i64 (d)])) (by simp) (i := 0) rfl
  have c11 : w2.cell? ⟨w.heap.size + 1, 1, none⟩ = some (.int .i64 (d)) := H2.cell (e := (w.heap.size + 1, [.int .i64 (c), .int .i64 (d)])) (by simp) (i := 1) rfl
  have c00 : w2.cell? ⟨w.heap.size, 0, none⟩ = some (.int .i64 (a)) := H2.cell (e := (w.heap.size, [.int .i64 (a), .int .i64 (b)])) (by simp) (i := 0) rfl
  have c01 : w2.cell? ⟨w.heap.size, 1, none⟩ = some (.int .i64 (b)) := H2.cell (e := (w.heap.size, [.int .i64 (a), .int .i64 (b)])) (by simp) (i := 1) rfl
  have f3 : ∀ i, w2.frozen? ⟨w.heap.size + 1 + 1 + 1, i, none⟩ = false := H2.free (w.heap.size + 1 + 1 + 1, [.int .i64 (0), .int .i64 (0)]) (by simp)
  have f2 : ∀ i, w2.frozen? ⟨w.heap.size + 1 + 1, i, none⟩ = false := H2.free (w.heap.size + 1 + 1, [.int .i64 (0), .int .i64 (0)]) (by simp)
  clear hB
  go_wp2_with fail
  all_goals
    refine (bothS_eq a (min b d) (max c a) d _ (by omega)).mono ?_
    rintro e w3 ⟨rfl, hB⟩
    have H3 := HeldL.next hB H2
    clear c00 c01 c10 c11 c20 c21 c30 c31 f2 f3
    have c30 : w3.cell? ⟨w.heap.size + 1 + 1 + 1, 0, none⟩ = some (.int .i64 (0)) := H3.cell (e := (w.heap.size + 1 + 1 + 1, [.int .i64 (0), .int .i64 (0)])) (by simp) (i := 0) rfl
    have c31 : w3.cell? ⟨w.heap.size + 1 + 1 + 1, 1, none⟩ = some (.int .i64 (0)) := H3.cell (e := (w.heap.size + 1 + 1 + 1, [.int .i64 (0), .int .i64 (0)])) (by simp) (i := 1) rfl
    have c20 : w3.cell? ⟨w.heap.size + 1 + 1, 0, none⟩ = some (.int .i64 (0)) := H3.cell (e := (w.heap.size + 1 + 1, [.int .i64 (0), .int .i64 (0)])) (by simp) (i := 0) rfl
    have c21 : w3.cell? ⟨w.heap.size + 1 + 1, 1, none⟩ = some (.int .i64 (0)) := H3.cell (e := (w.heap.size + 1 + 1, [.int .i64 (0), .int .i64 (0)])) (by simp) (i := 1) rfl
    have c10 : w3.cell? ⟨w.heap.size + 1, 0, none⟩ = some (.int .i64 (c)) := H3.cell (e := (w.heap.size + 1, [.int .i64 (c), .int .i64 (d)])) (by simp) (i := 0) rfl
    have c11 : w3.cell? ⟨w.heap.size + 1, 1, none⟩ = some (.int .i64 (d)) := H3.cell (e := (w.heap.size + 1, [.int .i64 (c), .int .i64 (d)])) (by simp) (i := 1) rfl
    have c00 : w3.cell? ⟨w.heap.size, 0, none⟩ = some (.int .i64 (a)) := H3.cell (e := (w.heap.size, [.int .i64 (a), .int .i64 (b)])) (by simp) (i := 0) rfl
    have c01 : w3.cell? ⟨w.heap.size, 1, none⟩ = some (.int .i64 (b)) := H3.cell (e := (w.heap.size, [.int .i64 (a), .int .i64 (b)])) (by simp) (i := 1) rfl
    have f3 : ∀ i, w3.frozen? ⟨w.heap.size + 1 + 1 + 1, i, none⟩ = false := H3.free (w.heap.size + 1 + 1 + 1, [.int .i64 (0), .int .i64 (0)]) (by simp)
    have f2 : ∀ i, w3.frozen? ⟨w.heap.size + 1 + 1, i, none⟩ = false := H3.free (w.heap.size + 1 + 1, [.int .i64 (0), .int .i64 (0)]) (by simp)
    clear hB
    go_wp2_with fail
    refine bodyPost_ret (v := .tuple #[.agg #[.int .i64 (both a (min b d) (max c a) d).l0, .int .i64 (both a (min b d) (max c a) d).h0], .agg #[.int .i64 (both a (min b d) (max c a) d).l1, .int .i64 (both a (min b d) (max c a) d).h1], .bool (both a (min b d) (max c a) d).ok]) (by simp [results, Try.results101, go_sem, cell_set, c20, c21, c30, c31]) rfl ⟨rfl, ?_⟩
    repeat (first | exact H3.below | refine Below.drew ?_ | refine Below.setCell ?_ (by simp; try omega) _)

set_option maxRecDepth 10000 in
set_option maxHeartbeats 4000000 in
theorem itvRelS_3 (a b c d : Int) (w : World) (hab : itvOk a b = true) (hcd : itvOk c d = true) :
    Calls Try.prog 101 #[.int .i64 3, .agg #[.int .i64 a, .int .i64 b], .agg #[.int .i64 c, .int .i64 d]] w fun e w' => e = .returned (.tuple #[.agg #[.int .i64 (both (max a c) (min b d) (max a c) (min b d)).l0, .int .i64 (both (max a c) (min b d) (max a c) (min b d)).h0], .agg #[.int .i64 (both (max a c) (min b d) (max a c) (min b d)).l1, .int .i64 (both (max a c) (min b d) (max a c) (min b d)).h1], .bool (both (max a c) (min b d) (max a c) (min b d)).ok]) ∧ Below w.heap.size w w' := by
  obtain ⟨ha, hb0, hl1⟩ := itvOk_of hab
  obtain ⟨hc0, hd, hl2⟩ := itvOk_of hcd
  have a1 := ok_lo ha
  have a2 := ok_hi ha
  have a3 := ok_lo hb0
  have a4 := ok_hi hb0
  have a5 := ok_lo hc0
  have a6 := ok_hi hc0
  have a7 := ok_lo hd
  have a8 := ok_hi hd
  clear ha hb0 hc0 hd
  go_enter Try.func101, Try.ntmps101
  go_wp2_with fail
  refine (itvOkS _ _ _).mono ?_
  rintro e w1 ⟨rfl, hB⟩
  have H1 := HeldL.next hB (held4 _ _ _ _ _ _ _ _ _ _)
  have c30 : w1.cell? ⟨w.heap.size + 1 + 1 + 1, 0, none⟩ = some (.int .i64 (0)) := H1.cell (e := (w.heap.size + 1 + 1 + 1, [.int .i64 (0), .int .i64 (0)])) (by simp) (i := 0) rfl
  have c31 : w1.cell? ⟨w.heap.size + 1 + 1 + 1, 1, none⟩ = some (.int .i64 (0)) := H1.cell (e := (w.heap.size + 1 + 1 + 1, [.int .i64 (0), .int .i64 (0)])) (by simp) (i := 1) rfl
  have c20 : w1.cell? ⟨w.heap.size + 1 + 1, 0, none⟩ = some (.int .i64 (0)) := H1.cell (e := (w.heap.size + 1 + 1, [.int .i64 (0), .int .i64 (0)])) (by simp) (i := 0) rfl
  have c21 : w1.cell? ⟨w.heap.size + 1 + 1, 1, none⟩ = some (.int .i64 (0)) := H1.cell (e := (w.heap.size + 1 + 1, [.int .i64 (0), .int .i64 (0)])) (by simp) (i := 1) rfl
  have c10 : w1.cell? ⟨w.heap.size + 1, 0, none⟩ = some (.int .i64 (c)) := H1.cell (e := (w.heap.size + 1, [.int .i64 (c), .int .i64 (d)])) (by simp) (i := 0) rfl
  have c11 : w1.cell? ⟨w.heap.size + 1, 1, none⟩ = some (.int .i64 (d)) := H1.cell (e := (w.heap.size + 1, [.int .i64 (c), .int .i64 (d)])) (by simp) (i := 1) rfl
  have c00 : w1.cell? ⟨w.heap.size, 0, none⟩ = some (.int .i64 (a)) := H1.cell (e := (w.heap.size, [.int .i64 (a), .int .i64 (b)])) (by simp) (i := 0) rfl
  have c01 : w1.cell? ⟨w.heap.size, 1, none⟩ = some (.int .i64 (b)) := H1.cell (e := (w.heap.size, [.int .i64 (a), .int .i64 (b)])) (by simp) (i := 1) rfl
  have f3 : ∀ i, w1.frozen? ⟨w.heap.size + 1 + 1 + 1, i, none⟩ = false := H1.free (w.heap.size + 1 + 1 + 1, [.int .i64 (0), .int .i64 (0)]) (by simp)
  have f2 : ∀ i, w1.frozen? ⟨w.heap.size + 1 + 1, i, none⟩ = false := H1.free (w.heap.size + 1 + 1, [.int .i64 (0), .int .i64 (0)]) (by simp)
  clear hB
  go_wp2_with fail
  refine (itvOkS _ _ _).mono ?_
  rintro e w2 ⟨rfl, hB⟩
  have H2 := HeldL.next hB H1
  clear c00 c01 c10 c11 c20 c21 c30 c31 f2 f3
  have c30 : w2.cell? ⟨w.heap.size + 1 + 1 + 1, 0, none⟩ = some (.int .i64 (0)) := H2.cell (e := (w.heap.size + 1 + 1 + 1, [.int .i64 (0), .int .i64 (0)])) (by simp) (i := 0) rfl
  have c31 : w2.cell? ⟨w.heap.size + 1 + 1 + 1, 1, none⟩ = some (.int .i64 (0)) := H2.cell (e := (w.heap.size + 1 + 1 + 1, [.int .i64 (0), .int .i64 (0)])) (by simp) (i := 1) rfl
  have c20 : w2.cell? ⟨w.heap.size + 1 + 1, 0, none⟩ = some (.int .i64 (0)) := H2.cell (e := (w.heap.size + 1 + 1, [.int .i64 (0), .int .i64 (0)])) (by simp) (i := 0) rfl
  have c21 : w2.cell? ⟨w.heap.size + 1 + 1, 1, none⟩ = some (.int .i64 (0)) := H2.cell (e := (w.heap.size + 1 + 1, [.int .i64 (0), .int .i64 (0)])) (by simp) (i := 1) rfl
  have c10 : w2.cell? ⟨w.heap.size + 1, 0, none⟩ = some (.int .i64 (c)) := H2.cell (e := (w.heap.size + 1, [.int .i64 (c), .int .i64 (d)])) (by simp) (i := 0) rfl
  have c11 : w2.cell? ⟨w.heap.size + 1, 1, none⟩ = some (.int .i64 (d)) := H2.cell (e := (w.heap.size + 1, [.int .i64 (c), .int .i64 (d)])) (by simp) (i := 1) rfl
  have c00 : w2.cell? ⟨w.heap.size, 0, none⟩ = some (.int .i64 (a)) := H2.cell (e := (w.heap.size, [.int .i64 (a), .int .i64 (b)])) (by simp) (i := 0) rfl
  have c01 : w2.cell? ⟨w.heap.size, 1, none⟩ = some (.int .i64 (b)) := H2.cell (e := (w.heap.size, [.int .i64 (a), .int .i64 (b)])) (by simp) (i := 1) rfl
  have f3 : ∀ i, w2.frozen? ⟨w.heap.size + 1 + 1 + 1, i, none⟩ = false := H2.free (w.heap.size + 1 + 1 + 1, [.int .i64 (0), .int .i64 (0)]) (by simp)
  have f2 : ∀ i, w2.frozen? ⟨w.heap.size + 1 + 1, i, none⟩ = false := H2.free (w.heap.size + 1 + 1, [.int .i64 (0), .int .i64 (0)]) (by simp)
  clear hB
  go_wp2_with fail
  all_goals
    refine (bothS_eq (max a c) (min b d) (max a c) (min b d) _ (by omega)).mono ?_
    rintro e w3 ⟨rfl, hB⟩
    have H3 := HeldL.next hB (HeldL.alloc _ H2)
    clear c00 c01 c10 c11 c20 c21 c30 c31 f2 f3
    have c30 : w3.cell? ⟨w.heap.size + 1 + 1 + 1, 0, none⟩ = some (.int .i64 (0)) := H3.cell (e := (w.heap.size + 1 + 1 + 1, [.int .i64 (0), .int .i64 (0)])) (by simp) (i := 0) rfl
    have c31 : w3.cell? ⟨w.heap.size + 1 + 1 + 1, 1, none⟩ = some (.int .i64 (0)) := H3.cell (e := (w.heap.size + 1 + 1 + 1, [.int .i64 (0), .int .i64 (0)])) (by simp) (i := 1) rfl
    have c20 : w3.cell? ⟨w.heap.size + 1 + 1, 0, none⟩ = some (.int .i64 (0)) := H3.cell (e := (w.heap.size + 1 + 1, [.int .i64 (0), .int .i64 (0)])) (by simp) (i := 0) rfl
    have c21 : w3.cell? ⟨w.heap.size + 1 + 1, 1, none⟩ = some (.int .i64 (0)) := H3.cell (e := (w.heap.size + 1 + 1, [.int .i64 (0), .int .i64 (0)])) (by simp) (i := 1) rfl
    have c10 : w3.cell? ⟨w.heap.size + 1, 0, none⟩ = some (.int .i64 (c)) := H3.cell (e := (w.heap.size + 1, [.int .i64 (c), .int .i64 (d)])) (by simp) (i := 0) rfl
    have c11 : w3.cell? ⟨w.heap.size + 1, 1, none⟩ = some (.int .i64 (d)) := H3.cell (e := (w.heap.size + 1, [.int .i64 (c), .int .i64 (d)])) (by simp) (i := 1) rfl
    have c00 : w3.cell? ⟨w.heap.size, 0, none⟩ = some (.int .i64 (a)) := H3.cell (e := (w.heap.size, [.int .i64 (a), .int .i64 (b)])) (by simp) (i := 0) rfl
    have c01 : w3.cell? ⟨w.heap.size, 1, none⟩ = some (.int .i64 (b)) := H3.cell (e := (w.heap.size, [.int .i64 (a), .int .i64 (b)])) (by simp) (i := 1) rfl
    have f3 : ∀ i, w3.frozen? ⟨w.heap.size + 1 + 1 + 1, i, none⟩ = false := H3.free (w.heap.size + 1 + 1 + 1, [.int .i64 (0), .int .i64 (0)]) (by simp)
    have f2 : ∀ i, w3.frozen? ⟨w.heap.size + 1 + 1, i, none⟩ = false := H3.free (w.heap.size + 1 + 1, [.int .i64 (0), .int .i64 (0)]) (by simp)
    clear hB
    go_wp2_with fail
    refine bodyPost_ret (v := .tuple #[.agg #[.int .i64 (both (max a c) (min b d) (max a c) (min b d)).l0, .int .i64 (both (max a c) (min b d) (max a c) (min b d)).h0], .agg #[.int .i64 (both (max a c) (min b d) (max a c) (min b d)).l1, .int .i64 (both (max a c) (min b d) (max a c) (min b d)).h1], .bool (both (max a c) (min b d) (max a c) (min b d)).ok]) (by simp [results, Try.results101, go_sem, cell_set, c20, c21, c30, c31]) rfl ⟨rfl, ?_⟩
    repeat (first | exact H3.below | refine Below.drew ?_ | refine Below.setCell ?_ (by simp; try omega) _)

theorem itvRelS (rel a b c d : Int) (w : World) :
    Calls Try.prog 101 #[.int .i64 rel, .agg #[.int .i64 a, .int .i64 b], .agg #[.int .i64 c, .int .i64 d]] w fun e w' => e = .returned (.tuple #[.agg #[.int .i64 (itvRel rel a b c d).l0, .int .i64 (itvRel rel a b c d).h0], .agg #[.int .i64 (itvRel rel a b c d).l1, .int .i64 (itvRel rel a b c d).h1], .bool (itvRel rel a b c d).ok]) ∧ Below w.heap.size w w' := by
  cases hab : itvOk a b
  · have k : itvRel rel a b c d = ⟨0, 0, 0, 0, false⟩ := by simp [itvRel, two, hab, Two.none]
    rw [k]; exact itvRelS_na rel a b c d w hab
  cases hcd : itvOk c d
  · have k : itvRel rel a b c d = ⟨0, 0, 0, 0, false⟩ := by simp [itvRel, two, hcd, Two.none]
    rw [k]; exact itvRelS_nb rel a b c d w hab hcd
  have t2 : two a b c d = true := by simp [two, hab, hcd]
  by_cases h1 : rel = 1
  · subst h1
    have k : itvRel 1 a b c d = both a (min b (d - 1)) (max c (a + 1)) d := by simp [itvRel, t2]
    rw [k]; exact itvRelS_1 a b c d w hab hcd
  by_cases h2 : rel = 2
  · subst h2
    have k : itvRel 2 a b c d = both a (min b d) (max c a) d := by simp [itvRel, t2]
    rw [k]; exact itvRelS_2 a b c d w hab hcd
  by_cases h3 : rel = 3
  · subst h3
    have k : itvRel 3 a b c d = both (max a c) (min b d) (max a c) (min b d) := by simp [itvRel, t2]
    rw [k]; exact itvRelS_3 a b c d w hab hcd
  by_cases h4 : rel = 4
  · subst h4
    have k : itvRel 4 a b c d = other a b c d := by simp [itvRel, t2]
    rw [k]; exact itvRelS_4 a b c d w hab hcd
  · have k : itvRel rel a b c d = ⟨0, 0, 0, 0, false⟩ := by simp [itvRel, h1, h2, h3, h4, Two.none]
    rw [k]; exact itvRelS_no rel a b c d w hab hcd h1 h2 h3 h4
end Go.Proofs.Ytdpkbbbfnmneiaa
