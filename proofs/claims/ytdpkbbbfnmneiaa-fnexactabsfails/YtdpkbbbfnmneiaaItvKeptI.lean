/- What is left of both by a stand: the program's (I). -/
import Derived.Test.YtdpkbbbfnmneiaaItvKeepI
import Derived.Test.YtdpkbbbfnmneiaaItvKeepJ
import Derived.WalkKit
import Derived.ProofKit
import Derived.OpenShut
import Derived.Below
namespace Go.Proofs.Ytdpkbbbfnmneiaa
open Go.ChangeShapes Go.WideShapes Go.ChangeAt Go.RowKit

set_option maxRecDepth 10000 in
set_option maxHeartbeats 4000000 in
theorem keptI_na (s : Value) (a b c d : Int) (w : World) (hab : itvOk a b = false) :
    Calls Try.prog 125 #[s, .agg #[.int .i64 a, .int .i64 b], .agg #[.int .i64 c, .int .i64 d]] w fun e w' => e = .returned (.tuple #[.agg #[.int .i64 0, .int .i64 0], .agg #[.int .i64 0, .int .i64 0], .bool false]) ∧ Below w.heap.size w w' := by
  go_enter Try.func125, Try.ntmps125
  go_wp2_with fail
  refine (itvOkI _ _ _).mono ?_
  rintro e w1 ⟨rfl, hB⟩
  have H1 := HeldL.next hB (held4 w (.int .i64 a) (.int .i64 b) (.int .i64 c) (.int .i64 d) (.int .i64 0) (.int .i64 0) (.int .i64 0) (.int .i64 0) 75)
  have c00 : w1.cell? ⟨w.heap.size + 1 + 1 + 1, 0, none⟩ = some (.int .i64 (0)) := H1.cell (e := (w.heap.size + 1 + 1 + 1, [.int .i64 (0), .int .i64 (0)])) (by simp) (i := 0) rfl
  have c01 : w1.cell? ⟨w.heap.size + 1 + 1 + 1, 1, none⟩ = some (.int .i64 (0)) := H1.cell (e := (w.heap.size + 1 + 1 + 1, [.int .i64 (0), .int .i64 (0)])) (by simp) (i := 1) rfl
  have c10 : w1.cell? ⟨w.heap.size + 1 + 1, 0, none⟩ = some (.int .i64 (0)) := H1.cell (e := (w.heap.size + 1 + 1, [.int .i64 (0), .int .i64 (0)])) (by simp) (i := 0) rfl
  have c11 : w1.cell? ⟨w.heap.size + 1 + 1, 1, none⟩ = some (.int .i64 (0)) := H1.cell (e := (w.heap.size + 1 + 1, [.int .i64 (0), .int .i64 (0)])) (by simp) (i := 1) rfl
  have c20 : w1.cell? ⟨w.heap.size + 1, 0, none⟩ = some (.int .i64 (c)) := H1.cell (e := (w.heap.size + 1, [.int .i64 (c), .int .i64 (d)])) (by simp) (i := 0) rfl
  have c21 : w1.cell? ⟨w.heap.size + 1, 1, none⟩ = some (.int .i64 (d)) := H1.cell (e := (w.heap.size + 1, [.int .i64 (c), .int .i64 (d)])) (by simp) (i := 1) rfl
  have c30 : w1.cell? ⟨w.heap.size, 0, none⟩ = some (.int .i64 (a)) := H1.cell (e := (w.heap.size, [.int .i64 (a), .int .i64 (b)])) (by simp) (i := 0) rfl
  have c31 : w1.cell? ⟨w.heap.size, 1, none⟩ = some (.int .i64 (b)) := H1.cell (e := (w.heap.size, [.int .i64 (a), .int .i64 (b)])) (by simp) (i := 1) rfl
  have f0 : ∀ i, w1.frozen? ⟨w.heap.size + 1 + 1 + 1, i, none⟩ = false := H1.free (w.heap.size + 1 + 1 + 1, [.int .i64 (0), .int .i64 (0)]) (by simp)
  have f1 : ∀ i, w1.frozen? ⟨w.heap.size + 1 + 1, i, none⟩ = false := H1.free (w.heap.size + 1 + 1, [.int .i64 (0), .int .i64 (0)]) (by simp)
  have z0 : w.heap.size + 1 + 1 + 1 < w1.heap.size := H1.size (e := (w.heap.size + 1 + 1 + 1, [.int .i64 (0), .int .i64 (0)])) (by simp)
  clear hB
  go_wp2_with fail
  refine bodyPost_ret (v := .tuple #[.agg #[.int .i64 0, .int .i64 0], .agg #[.int .i64 0, .int .i64 0], .bool false]) (by simp [results, Try.results125, go_sem, cell_set, c00, c01, c10, c11]) rfl ⟨rfl, ?_⟩
  repeat (first | exact H1.below | refine Below.drew ?_ | refine Below.setCell ?_ (by simp; try omega) _)

set_option maxRecDepth 10000 in
set_option maxHeartbeats 4000000 in
theorem keptI_nb (s : Value) (a b c d : Int) (w : World) (hab : itvOk a b = true) (hcd : itvOk c d = false) :
    Calls Try.prog 125 #[s, .agg #[.int .i64 a, .int .i64 b], .agg #[.int .i64 c, .int .i64 d]] w fun e w' => e = .returned (.tuple #[.agg #[.int .i64 0, .int .i64 0], .agg #[.int .i64 0, .int .i64 0], .bool false]) ∧ Below w.heap.size w w' := by
  go_enter Try.func125, Try.ntmps125
  go_wp2_with fail
  refine (itvOkI _ _ _).mono ?_
  rintro e w1 ⟨rfl, hB⟩
  have H1 := HeldL.next hB (held4 w (.int .i64 a) (.int .i64 b) (.int .i64 c) (.int .i64 d) (.int .i64 0) (.int .i64 0) (.int .i64 0) (.int .i64 0) 75)
  have c00 : w1.cell? ⟨w.heap.size + 1 + 1 + 1, 0, none⟩ = some (.int .i64 (0)) := H1.cell (e := (w.heap.size + 1 + 1 + 1, [.int .i64 (0), .int .i64 (0)])) (by simp) (i := 0) rfl
  have c01 : w1.cell? ⟨w.heap.size + 1 + 1 + 1, 1, none⟩ = some (.int .i64 (0)) := H1.cell (e := (w.heap.size + 1 + 1 + 1, [.int .i64 (0), .int .i64 (0)])) (by simp) (i := 1) rfl
  have c10 : w1.cell? ⟨w.heap.size + 1 + 1, 0, none⟩ = some (.int .i64 (0)) := H1.cell (e := (w.heap.size + 1 + 1, [.int .i64 (0), .int .i64 (0)])) (by simp) (i := 0) rfl
  have c11 : w1.cell? ⟨w.heap.size + 1 + 1, 1, none⟩ = some (.int .i64 (0)) := H1.cell (e := (w.heap.size + 1 + 1, [.int .i64 (0), .int .i64 (0)])) (by simp) (i := 1) rfl
  have c20 : w1.cell? ⟨w.heap.size + 1, 0, none⟩ = some (.int .i64 (c)) := H1.cell (e := (w.heap.size + 1, [.int .i64 (c), .int .i64 (d)])) (by simp) (i := 0) rfl
  have c21 : w1.cell? ⟨w.heap.size + 1, 1, none⟩ = some (.int .i64 (d)) := H1.cell (e := (w.heap.size + 1, [.int .i64 (c), .int .i64 (d)])) (by simp) (i := 1) rfl
  have c30 : w1.cell? ⟨w.heap.size, 0, none⟩ = some (.int .i64 (a)) := H1.cell (e := (w.heap.size, [.int .i64 (a), .int .i64 (b)])) (by simp) (i := 0) rfl
  have c31 : w1.cell? ⟨w.heap.size, 1, none⟩ = some (.int .i64 (b)) := H1.cell (e := (w.heap.size, [.int .i64 (a), .int .i64 (b)])) (by simp) (i := 1) rfl
  have f0 : ∀ i, w1.frozen? ⟨w.heap.size + 1 + 1 + 1, i, none⟩ = false := H1.free (w.heap.size + 1 + 1 + 1, [.int .i64 (0), .int .i64 (0)]) (by simp)
  have f1 : ∀ i, w1.frozen? ⟨w.heap.size + 1 + 1, i, none⟩ = false := H1.free (w.heap.size + 1 + 1, [.int .i64 (0), .int .i64 (0)]) (by simp)
  have z0 : w.heap.size + 1 + 1 + 1 < w1.heap.size := H1.size (e := (w.heap.size + 1 + 1 + 1, [.int .i64 (0), .int .i64 (0)])) (by simp)
  clear hB
  go_wp2_with fail
  refine (itvOkI _ _ _).mono ?_
  rintro e w2 ⟨rfl, hB⟩
  have H2 := HeldL.next hB H1
  clear c00 c01 c10 c11 c20 c21 c30 c31 f0 f1 z0
  have c00 : w2.cell? ⟨w.heap.size + 1 + 1 + 1, 0, none⟩ = some (.int .i64 (0)) := H2.cell (e := (w.heap.size + 1 + 1 + 1, [.int .i64 (0), .int .i64 (0)])) (by simp) (i := 0) rfl
  have c01 : w2.cell? ⟨w.heap.size + 1 + 1 + 1, 1, none⟩ = some (.int .i64 (0)) := H2.cell (e := (w.heap.size + 1 + 1 + 1, [.int .i64 (0), .int .i64 (0)])) (by simp) (i := 1) rfl
  have c10 : w2.cell? ⟨w.heap.size + 1 + 1, 0, none⟩ = some (.int .i64 (0)) := H2.cell (e := (w.heap.size + 1 + 1, [.int .i64 (0), .int .i64 (0)])) (by simp) (i := 0) rfl
  have c11 : w2.cell? ⟨w.heap.size + 1 + 1, 1, none⟩ = some (.int .i64 (0)) := H2.cell (e := (w.heap.size + 1 + 1, [.int .i64 (0), .int .i64 (0)])) (by simp) (i := 1) rfl
  have c20 : w2.cell? ⟨w.heap.size + 1, 0, none⟩ = some (.int .i64 (c)) := H2.cell (e := (w.heap.size + 1, [.int .i64 (c), .int .i64 (d)])) (by simp) (i := 0) rfl
  have c21 : w2.cell? ⟨w.heap.size + 1, 1, none⟩ = some (.int .i64 (d)) := H2.cell (e := (w.heap.size + 1, [.int .i64 (c), .int .i64 (d)])) (by simp) (i := 1) rfl
  have c30 : w2.cell? ⟨w.heap.size, 0, none⟩ = some (.int .i64 (a)) := H2.cell (e := (w.heap.size, [.int .i64 (a), .int .i64 (b)])) (by simp) (i := 0) rfl
  have c31 : w2.cell? ⟨w.heap.size, 1, none⟩ = some (.int .i64 (b)) := H2.cell (e := (w.heap.size, [.int .i64 (a), .int .i64 (b)])) (by simp) (i := 1) rfl
  have f0 : ∀ i, w2.frozen? ⟨w.heap.size + 1 + 1 + 1, i, none⟩ = false := H2.free (w.heap.size + 1 + 1 + 1, [.int .i64 (0), .int .i64 (0)]) (by simp)
  have f1 : ∀ i, w2.frozen? ⟨w.heap.size + 1 + 1, i, none⟩ = false := H2.free (w.heap.size + 1 + 1, [.int .i64 (0), .int .i64 (0)]) (by simp)
  have z0 : w.heap.size + 1 + 1 + 1 < w2.heap.size := H2.size (e := (w.heap.size + 1 + 1 + 1, [.int .i64 (0), .int .i64 (0)])) (by simp)
  clear hB
  go_wp2_with fail
  refine bodyPost_ret (v := .tuple #[.agg #[.int .i64 0, .int .i64 0], .agg #[.int .i64 0, .int .i64 0], .bool false]) (by simp [results, Try.results125, go_sem, cell_set, c00, c01, c10, c11]) rfl ⟨rfl, ?_⟩
  repeat (first | exact H2.below | refine Below.drew ?_ | refine Below.setCell ?_ (by simp; try omega) _)

theorem keepI_1_eq (a b c d p q r s : Int) (w : World) (h : p = a ∧ q = min b (d - 1) ∧ r = max c (a + 1) ∧ s = d) (a1 : -32768 ≤ a) (a2 : a ≤ 32767) (a7 : -32768 ≤ d) (a8 : d ≤ 32767) :
    Calls Try.prog 168 #[.agg #[], .agg #[.int .i64 a, .int .i64 b], .agg #[.int .i64 c, .int .i64 d]] w fun e w' => e = .returned (.tuple #[.agg #[.int .i64 p, .int .i64 q], .agg #[.int .i64 r, .int .i64 s]]) ∧ Below w.heap.size w w' := by
  obtain ⟨rfl, rfl, rfl, rfl⟩ := h
  exact keepI_1 _ _ _ _ _ a1 a2 a7 a8

set_option maxRecDepth 10000 in
set_option maxHeartbeats 4000000 in
theorem keptI_1 (a b c d p q r s : Int) (w : World) (hab : itvOk a b = true) (hcd : itvOk c d = true) (h : p = a ∧ q = min b (d - 1) ∧ r = max c (a + 1) ∧ s = d) :
    Calls Try.prog 125 #[.iface 204 (.agg #[]), .agg #[.int .i64 a, .int .i64 b], .agg #[.int .i64 c, .int .i64 d]] w fun e w' => e = .returned (.tuple #[.agg #[.int .i64 (both p q r s).l0, .int .i64 (both p q r s).h0], .agg #[.int .i64 (both p q r s).l1, .int .i64 (both p q r s).h1], .bool (both p q r s).ok]) ∧ Below w.heap.size w w' := by
  have Hh : Hid (p = a ∧ q = min b (d - 1) ∧ r = max c (a + 1) ∧ s = d) := h
  clear h
  obtain ⟨ha, hb0, hl1⟩ := itvOk_of hab
  obtain ⟨hc0, hd, hl2⟩ := itvOk_of hcd
  have a1 := ok_lo ha
  have a2 := ok_hi ha
  have a3 := ok_lo hb0
  have a4 := ok_hi hb0
  have a5 := ok_lo hc0
  have a6 := ok_hi hc0
  have a7 := ok_lo hd
  have a8 := ok_hi hd
  clear ha hb0 hc0 hd
  go_enter Try.func125, Try.ntmps125
  go_wp2_with fail
  refine (itvOkI _ _ _).mono ?_
  rintro e w1 ⟨rfl, hB⟩
  have H1 := HeldL.next hB (held4 w (.int .i64 a) (.int .i64 b) (.int .i64 c) (.int .i64 d) (.int .i64 0) (.int .i64 0) (.int .i64 0) (.int .i64 0) 75)
  have c00 : w1.cell? ⟨w.heap.size + 1 + 1 + 1, 0, none⟩ = some (.int .i64 (0)) := H1.cell (e := (w.heap.size + 1 + 1 + 1, [.int .i64 (0), .int .i64 (0)])) (by simp) (i := 0) rfl
  have c01 : w1.cell? ⟨w.heap.size + 1 + 1 + 1, 1, none⟩ = some (.int .i64 (0)) := H1.cell (e := (w.heap.size + 1 + 1 + 1, [.int .i64 (0), .int .i64 (0)])) (by simp) (i := 1) rfl
  have c10 : w1.cell? ⟨w.heap.size + 1 + 1, 0, none⟩ = some (.int .i64 (0)) := H1.cell (e := (w.heap.size + 1 + 1, [.int .i64 (0), .int .i64 (0)])) (by simp) (i := 0) rfl
  have c11 : w1.cell? ⟨w.heap.size + 1 + 1, 1, none⟩ = some (.int .i64 (0)) := H1.cell (e := (w.heap.size + 1 + 1, [.int .i64 (0), .int .i64 (0)])) (by simp) (i := 1) rfl
  have c20 : w1.cell? ⟨w.heap.size + 1, 0, none⟩ = some (.int .i64 (c)) := H1.cell (e := (w.heap.size + 1, [.int .i64 (c), .int .i64 (d)])) (by simp) (i := 0) rfl
  have c21 : w1.cell? ⟨w.heap.size + 1, 1, none⟩ = some (.int .i64 (d)) := H1.cell (e := (w.heap.size + 1, [.int .i64 (c), .int .i64 (d)])) (by simp) (i := 1) rfl
  have c30 : w1.cell? ⟨w.heap.size, 0, none⟩ = some (.int .i64 (a)) := H1.cell (e := (w.heap.size, [.int .i64 (a), .int .i64 (b)])) (by simp) (i := 0) rfl
  have c31 : w1.cell? ⟨w.heap.size, 1, none⟩ = some (.int .i64 (b)) := H1.cell (e := (w.heap.size, [.int .i64 (a), .int .i64 (b)])) (by simp) (i := 1) rfl
  have f0 : ∀ i, w1.frozen? ⟨w.heap.size + 1 + 1 + 1, i, none⟩ = false := H1.free (w.heap.size + 1 + 1 + 1, [.int .i64 (0), .int .i64 (0)]) (by simp)
  have f1 : ∀ i, w1.frozen? ⟨w.heap.size + 1 + 1, i, none⟩ = false := H1.free (w.heap.size + 1 + 1, [.int .i64 (0), .int .i64 (0)]) (by simp)
  have z0 : w.heap.size + 1 + 1 + 1 < w1.heap.size := H1.size (e := (w.heap.size + 1 + 1 + 1, [.int .i64 (0), .int .i64 (0)])) (by simp)
  clear hB
  go_wp2_with fail
  refine (itvOkI _ _ _).mono ?_
  rintro e w2 ⟨rfl, hB⟩
  have H2 := HeldL.next hB H1
  clear c00 c01 c10 c11 c20 c21 c30 c31 f0 f1 z0
  have c00 : w2.cell? ⟨w.heap.size + 1 + 1 + 1, 0, none⟩ = some (.int .i64 (0)) := H2.cell (e := (w.heap.size + 1 + 1 + 1, [.int .i64 (0), .int .i64 (0)])) (by simp) (i := 0) rfl
  have c01 : w2.cell? ⟨w.heap.size + 1 + 1 + 1, 1, none⟩ = some (.int .i64 (0)) := H2.cell (e := (w.heap.size + 1 + 1 + 1, [.int .i64 (0), .int .i64 (0)])) (by simp) (i := 1) rfl
  have c10 : w2.cell? ⟨w.heap.size + 1 + 1, 0, none⟩ = some (.int .i64 (0)) := H2.cell (e := (w.heap.size + 1 + 1, [.int .i64 (0), .int .i64 (0)])) (by simp) (i := 0) rfl
  have c11 : w2.cell? ⟨w.heap.size + 1 + 1, 1, none⟩ = some (.int .i64 (0)) := H2.cell (e := (w.heap.size + 1 + 1, [.int .i64 (0), .int .i64 (0)])) (by simp) (i := 1) rfl
  have c20 : w2.cell? ⟨w.heap.size + 1, 0, none⟩ = some (.int .i64 (c)) := H2.cell (e := (w.heap.size + 1, [.int .i64 (c), .int .i64 (d)])) (by simp) (i := 0) rfl
  have c21 : w2.cell? ⟨w.heap.size + 1, 1, none⟩ = some (.int .i64 (d)) := H2.cell (e := (w.heap.size + 1, [.int .i64 (c), .int .i64 (d)])) (by simp) (i := 1) rfl
  have c30 : w2.cell? ⟨w.heap.size, 0, none⟩ = some (.int .i64 (a)) := H2.cell (e := (w.heap.size, [.int .i64 (a), .int .i64 (b)])) (by simp) (i := 0) rfl
  have c31 : w2.cell? ⟨w.heap.size, 1, none⟩ = some (.int .i64 (b)) := H2.cell (e := (w.heap.size, [.int .i64 (a), .int .i64 (b)])) (by simp) (i := 1) rfl
  have f0 : ∀ i, w2.frozen? ⟨w.heap.size + 1 + 1 + 1, i, none⟩ = false := H2.free (w.heap.size + 1 + 1 + 1, [.int .i64 (0), .int .i64 (0)]) (by simp)
  have f1 : ∀ i, w2.frozen? ⟨w.heap.size + 1 + 1, i, none⟩ = false := H2.free (w.heap.size + 1 + 1, [.int .i64 (0), .int .i64 (0)]) (by simp)
  have z0 : w.heap.size + 1 + 1 + 1 < w2.heap.size := H2.size (e := (w.heap.size + 1 + 1 + 1, [.int .i64 (0), .int .i64 (0)])) (by simp)
  clear hB
  go_wp2_with fail
  refine (keepI_1_eq _ _ _ _ p q r s _ Hh a1 a2 a7 a8).mono ?_
  rintro e w3 ⟨rfl, hB⟩
  have H3 := HeldL.next hB H2
  clear c00 c01 c10 c11 c20 c21 c30 c31 f0 f1 z0
  have c00 : w3.cell? ⟨w.heap.size + 1 + 1 + 1, 0, none⟩ = some (.int .i64 (0)) := H3.cell (e := (w.heap.size + 1 + 1 + 1, [.int .i64 (0), .int .i64 (0)])) (by simp) (i := 0) rfl
  have c01 : w3.cell? ⟨w.heap.size + 1 + 1 + 1, 1, none⟩ = some (.int .i64 (0)) := H3.cell (e := (w.heap.size + 1 + 1 + 1, [.int .i64 (0), .int .i64 (0)])) (by simp) (i := 1) rfl
  have c10 : w3.cell? ⟨w.heap.size + 1 + 1, 0, none⟩ = some (.int .i64 (0)) := H3.cell (e := (w.heap.size + 1 + 1, [.int .i64 (0), .int .i64 (0)])) (by simp) (i := 0) rfl
  have c11 : w3.cell? ⟨w.heap.size + 1 + 1, 1, none⟩ = some (.int .i64 (0)) := H3.cell (e := (w.heap.size + 1 + 1, [.int .i64 (0), .int .i64 (0)])) (by simp) (i := 1) rfl
  have c20 : w3.cell? ⟨w.heap.size + 1, 0, none⟩ = some (.int .i64 (c)) := H3.cell (e := (w.heap.size + 1, [.int .i64 (c), .int .i64 (d)])) (by simp) (i := 0) rfl
  have c21 : w3.cell? ⟨w.heap.size + 1, 1, none⟩ = some (.int .i64 (d)) := H3.cell (e := (w.heap.size + 1, [.int .i64 (c), .int .i64 (d)])) (by simp) (i := 1) rfl
  have c30 : w3.cell? ⟨w.heap.size, 0, none⟩ = some (.int .i64 (a)) := H3.cell (e := (w.heap.size, [.int .i64 (a), .int .i64 (b)])) (by simp) (i := 0) rfl
  have c31 : w3.cell? ⟨w.heap.size, 1, none⟩ = some (.int .i64 (b)) := H3.cell (e := (w.heap.size, [.int .i64 (a), .int .i64 (b)])) (by simp) (i := 1) rfl
  have f0 : ∀ i, w3.frozen? ⟨w.heap.size + 1 + 1 + 1, i, none⟩ = false := H3.free (w.heap.size + 1 + 1 + 1, [.int .i64 (0), .int .i64 (0)]) (by simp)
  have f1 : ∀ i, w3.frozen? ⟨w.heap.size + 1 + 1, i, none⟩ = false := H3.free (w.heap.size + 1 + 1, [.int .i64 (0), .int .i64 (0)]) (by simp)
  have z0 : w.heap.size + 1 + 1 + 1 < w3.heap.size := H3.size (e := (w.heap.size + 1 + 1 + 1, [.int .i64 (0), .int .i64 (0)])) (by simp)
  have g00 : ∀ o o', ((w3.alloc o).alloc o').cell? ⟨w.heap.size + 1 + 1 + 1, 0, none⟩ = some (.int .i64 (0)) := fun o o' => ((H3.alloc o).alloc o').cell (e := (w.heap.size + 1 + 1 + 1, [.int .i64 (0), .int .i64 (0)])) (by simp) (i := 0) rfl
  have g01 : ∀ o o', ((w3.alloc o).alloc o').cell? ⟨w.heap.size + 1 + 1 + 1, 1, none⟩ = some (.int .i64 (0)) := fun o o' => ((H3.alloc o).alloc o').cell (e := (w.heap.size + 1 + 1 + 1, [.int .i64 (0), .int .i64 (0)])) (by simp) (i := 1) rfl
  have h0 : ∀ o o' i, ((w3.alloc o).alloc o').frozen? ⟨w.heap.size + 1 + 1 + 1, i, none⟩ = false := fun o o' => ((H3.alloc o).alloc o').free (w.heap.size + 1 + 1 + 1, [.int .i64 (0), .int .i64 (0)]) (by simp)
  have g10 : ∀ o o', ((w3.alloc o).alloc o').cell? ⟨w.heap.size + 1 + 1, 0, none⟩ = some (.int .i64 (0)) := fun o o' => ((H3.alloc o).alloc o').cell (e := (w.heap.size + 1 + 1, [.int .i64 (0), .int .i64 (0)])) (by simp) (i := 0) rfl
  have g11 : ∀ o o', ((w3.alloc o).alloc o').cell? ⟨w.heap.size + 1 + 1, 1, none⟩ = some (.int .i64 (0)) := fun o o' => ((H3.alloc o).alloc o').cell (e := (w.heap.size + 1 + 1, [.int .i64 (0), .int .i64 (0)])) (by simp) (i := 1) rfl
  have h1 : ∀ o o' i, ((w3.alloc o).alloc o').frozen? ⟨w.heap.size + 1 + 1, i, none⟩ = false := fun o o' => ((H3.alloc o).alloc o').free (w.heap.size + 1 + 1, [.int .i64 (0), .int .i64 (0)]) (by simp)
  clear c00 c01 c10 c11 c20 c21 c30 c31 f0 f1
  clear hB a1 a2 a3 a4 a5 a6 a7 a8 hl1 hl2
  by_cases j1 : p ≤ q
  · by_cases j2 : r ≤ s
    · have k : both p q r s = ⟨p, q, r, s, true⟩ := by rw [both, if_pos ⟨j1, j2⟩]
      go_wp2_with fail
      go_region
      all_goals (go_wp2_with fail)
      all_goals (refine bodyPost_ret (v := .tuple #[.agg #[.int .i64 p, .int .i64 q], .agg #[.int .i64 r, .int .i64 s], .bool true]) (by simp [results, Try.results125, go_sem, cell_set, g00, g01, g10, g11]) rfl ⟨by rw [k], ?_⟩)
      all_goals (repeat (first | exact H3.below | refine Below.drew ?_ | refine Below.setCell ?_ (by simp; try omega) _ | refine Below.alloc ?_ (by first | exact H3.below.size | (have := H3.below.size; simp; omega)) _))
    · have k : both p q r s = ⟨0, 0, 0, 0, false⟩ := by rw [both, if_neg (by omega)]; rfl
      go_wp2_with fail
      refine bodyPost_ret (v := .tuple #[.agg #[.int .i64 0, .int .i64 0], .agg #[.int .i64 0, .int .i64 0], .bool false]) (by simp [results, Try.results125, go_sem, cell_set, g00, g01, g10, g11]) rfl ⟨by rw [k], ?_⟩
      repeat (first | exact H3.below | refine Below.drew ?_ | refine Below.setCell ?_ (by simp; try omega) _ | refine Below.alloc ?_ (by first | exact H3.below.size | (have := H3.below.size; simp; omega)) _)
  · have k : both p q r s = ⟨0, 0, 0, 0, false⟩ := by rw [both, if_neg (by omega)]; rfl
    go_wp2_with fail
    refine bodyPost_ret (v := .tuple #[.agg #[.int .i64 0, .int .i64 0], .agg #[.int .i64 0, .int .i64 0], .bool false]) (by simp [results, Try.results125, go_sem, cell_set, g00, g01, g10, g11]) rfl ⟨by rw [k], ?_⟩
    repeat (first | exact H3.below | refine Below.drew ?_ | refine Below.setCell ?_ (by simp; try omega) _ | refine Below.alloc ?_ (by first | exact H3.below.size | (have := H3.below.size; simp; omega)) _)

theorem keepI_2_eq (a b c d p q r s : Int) (w : World) (h : p = a ∧ q = min b d ∧ r = max c a ∧ s = d)  :
    Calls Try.prog 170 #[.agg #[], .agg #[.int .i64 a, .int .i64 b], .agg #[.int .i64 c, .int .i64 d]] w fun e w' => e = .returned (.tuple #[.agg #[.int .i64 p, .int .i64 q], .agg #[.int .i64 r, .int .i64 s]]) ∧ Below w.heap.size w w' := by
  obtain ⟨rfl, rfl, rfl, rfl⟩ := h
  exact keepI_2 _ _ _ _ _

set_option maxRecDepth 10000 in
set_option maxHeartbeats 4000000 in
theorem keptI_2 (a b c d p q r s : Int) (w : World) (hab : itvOk a b = true) (hcd : itvOk c d = true) (h : p = a ∧ q = min b d ∧ r = max c a ∧ s = d) :
    Calls Try.prog 125 #[.iface 205 (.agg #[]), .agg #[.int .i64 a, .int .i64 b], .agg #[.int .i64 c, .int .i64 d]] w fun e w' => e = .returned (.tuple #[.agg #[.int .i64 (both p q r s).l0, .int .i64 (both p q r s).h0], .agg #[.int .i64 (both p q r s).l1, .int .i64 (both p q r s).h1], .bool (both p q r s).ok]) ∧ Below w.heap.size w w' := by
  have Hh : Hid (p = a ∧ q = min b d ∧ r = max c a ∧ s = d) := h
  clear h
  obtain ⟨ha, hb0, hl1⟩ := itvOk_of hab
  obtain ⟨hc0, hd, hl2⟩ := itvOk_of hcd
  have a1 := ok_lo ha
  have a2 := ok_hi ha
  have a3 := ok_lo hb0
  have a4 := ok_hi hb0
  have a5 := ok_lo hc0
  have a6 := ok_hi hc0
  have a7 := ok_lo hd
  have a8 := ok_hi hd
  clear ha hb0 hc0 hd
  go_enter Try.func125, Try.ntmps125
  go_wp2_with fail
  refine (itvOkI _ _ _).mono ?_
  rintro e w1 ⟨rfl, hB⟩
  have H1 := HeldL.next hB (held4 w (.int .i64 a) (.int .i64 b) (.int .i64 c) (.int .i64 d) (.int .i64 0) (.int .i64 0) (.int .i64 0) (.int .i64 0) 75)
  have c00 : w1.cell? ⟨w.heap.size + 1 + 1 + 1, 0, none⟩ = some (.int .i64 (0)) := H1.cell (e := (w.heap.size + 1 + 1 + 1, [.int .i64 (0), .int .i64 (0)])) (by simp) (i := 0) rfl
  have c01 : w1.cell? ⟨w.heap.size + 1 + 1 + 1, 1, none⟩ = some (.int .i64 (0)) := H1.cell (e := (w.heap.size + 1 + 1 + 1, [.int .i64 (0), .int .i64 (0)])) (by simp) (i := 1) rfl
  have c10 : w1.cell? ⟨w.heap.size + 1 + 1, 0, none⟩ = some (.int .i64 (0)) := H1.cell (e := (w.heap.size + 1 + 1, [.int .i64 (0), .int .i64 (0)])) (by simp) (i := 0) rfl
  have c11 : w1.cell? ⟨w.heap.size + 1 + 1, 1, none⟩ = some (.int .i64 (0)) := H1.cell (e := (w.heap.size + 1 + 1, [.int .i64 (0), .int .i64 (0)])) (by simp) (i := 1) rfl
  have c20 : w1.cell? ⟨w.heap.size + 1, 0, none⟩ = some (.int .i64 (c)) := H1.cell (e := (w.heap.size + 1, [.int .i64 (c), .int .i64 (d)])) (by simp) (i := 0) rfl
  have c21 : w1.cell? ⟨w.heap.size + 1, 1, none⟩ = some (.int .i64 (d)) := H1.cell (e := (w.heap.size + 1, [.int .i64 (c), .int .i64 (d)])) (by simp) (i := 1) rfl
  have c30 : w1.cell? ⟨w.heap.size, 0, none⟩ = some (.int .i64 (a)) := H1.cell (e := (w.heap.size, [.int .i64 (a), .int .i64 (b)])) (by simp) (i := 0) rfl
  have c31 : w1.cell? ⟨w.heap.size, 1, none⟩ = some (.int .i64 (b)) := H1.cell (e := (w.heap.size, [.int .i64 (a), .int .i64 (b)])) (by simp) (i := 1) rfl
  have f0 : ∀ i, w1.frozen? ⟨w.heap.size + 1 + 1 + 1, i, none⟩ = false := H1.free (w.heap.size + 1 + 1 + 1, [.int .i64 (0), .int .i64 (0)]) (by simp)
  have f1 : ∀ i, w1.frozen? ⟨w.heap.size + 1 + 1, i, none⟩ = false := H1.free (w.heap.size + 1 + 1, [.int .i64 (0), .int .i64 (0)]) (by simp)
  have z0 : w.heap.size + 1 + 1 + 1 < w1.heap.size := H1.size (e := (w.heap.size + 1 + 1 + 1, [.int .i64 (0), .int .i64 (0)])) (by simp)
  clear hB
  go_wp2_with fail
  refine (itvOkI _ _ _).mono ?_
  rintro e w2 ⟨rfl, hB⟩
  have H2 := HeldL.next hB H1
  clear c00 c01 c10 c11 c20 c21 c30 c31 f0 f1 z0
  have c00 : w2.cell? ⟨w.heap.size + 1 + 1 + 1, 0, none⟩ = some (.int .i64 (0)) := H2.cell (e := (w.heap.size + 1 + 1 + 1, [.int .i64 (0), .int .i64 (0)])) (by simp) (i := 0) rfl
  have c01 : w2.cell? ⟨w.heap.size + 1 + 1 + 1, 1, none⟩ = some (.int .i64 (0)) := H2.cell (e := (w.heap.size + 1 + 1 + 1, [.int .i64 (0), .int .i64 (0)])) (by simp) (i := 1) rfl
  have c10 : w2.cell? ⟨w.heap.size + 1 + 1, 0, none⟩ = some (.int .i64 (0)) := H2.cell (e := (w.heap.size + 1 + 1, [.int .i64 (0), .int .i64 (0)])) (by simp) (i := 0) rfl
  have c11 : w2.cell? ⟨w.heap.size + 1 + 1, 1, none⟩ = some (.int .i64 (0)) := H2.cell (e := (w.heap.size + 1 + 1, [.int .i64 (0), .int .i64 (0)])) (by simp) (i := 1) rfl
  have c20 : w2.cell? ⟨w.heap.size + 1, 0, none⟩ = some (.int .i64 (c)) := H2.cell (e := (w.heap.size + 1, [.int .i64 (c), .int .i64 (d)])) (by simp) (i := 0) rfl
  have c21 : w2.cell? ⟨w.heap.size + 1, 1, none⟩ = some (.int .i64 (d)) := H2.cell (e := (w.heap.size + 1, [.int .i64 (c), .int .i64 (d)])) (by simp) (i := 1) rfl
  have c30 : w2.cell? ⟨w.heap.size, 0, none⟩ = some (.int .i64 (a)) := H2.cell (e := (w.heap.size, [.int .i64 (a), .int .i64 (b)])) (by simp) (i := 0) rfl
  have c31 : w2.cell? ⟨w.heap.size, 1, none⟩ = some (.int .i64 (b)) := H2.cell (e := (w.heap.size, [.int .i64 (a), .int .i64 (b)])) (by simp) (i := 1) rfl
  have f0 : ∀ i, w2.frozen? ⟨w.heap.size + 1 + 1 + 1, i, none⟩ = false := H2.free (w.heap.size + 1 + 1 + 1, [.int .i64 (0), .int .i64 (0)]) (by simp)
  have f1 : ∀ i, w2.frozen? ⟨w.heap.size + 1 + 1, i, none⟩ = false := H2.free (w.heap.size + 1 + 1, [.int .i64 (0), .int .i64 (0)]) (by simp)
  have z0 : w.heap.size + 1 + 1 + 1 < w2.heap.size := H2.size (e := (w.heap.size + 1 + 1 + 1, [.int .i64 (0), .int .i64 (0)])) (by simp)
  clear hB
  go_wp2_with fail
  refine (keepI_2_eq _ _ _ _ p q r s _ Hh).mono ?_
  rintro e w3 ⟨rfl, hB⟩
  have H3 := HeldL.next hB H2
  clear c00 c01 c10 c11 c20 c21 c30 c31 f0 f1 z0
  have c00 : w3.cell? ⟨w.heap.size + 1 + 1 + 1, 0, none⟩ = some (.int .i64 (0)) := H3.cell (e := (w.heap.size + 1 + 1 + 1, [.int .i64 (0), .int .i64 (0)])) (by simp) (i := 0) rfl
  have c01 : w3.cell? ⟨w.heap.size + 1 + 1 + 1, 1, none⟩ = some (.int .i64 (0)) := H3.cell (e := (w.heap.size + 1 + 1 + 1, [.int .i64 (0), .int .i64 (0)])) (by simp) (i := 1) rfl
  have c10 : w3.cell? ⟨w.heap.size + 1 + 1, 0, none⟩ = some (.int .i64 (0)) := H3.cell (e := (w.heap.size + 1 + 1, [.int .i64 (0), .int .i64 (0)])) (by simp) (i := 0) rfl
  have c11 : w3.cell? ⟨w.heap.size + 1 + 1, 1, none⟩ = some (.int .i64 (0)) := H3.cell (e := (w.heap.size + 1 + 1, [.int .i64 (0), .int .i64 (0)])) (by simp) (i := 1) rfl
  have c20 : w3.cell? ⟨w.heap.size + 1, 0, none⟩ = some (.int .i64 (c)) := H3.cell (e := (w.heap.size + 1, [.int .i64 (c), .int .i64 (d)])) (by simp) (i := 0) rfl
  have c21 : w3.cell? ⟨w.heap.size + 1, 1, none⟩ = some (.int .i64 (d)) := H3.cell (e := (w.heap.size + 1, [.int .i64 (c), .int .i64 (d)])) (by simp) (i := 1) rfl
  have c30 : w3.cell? ⟨w.heap.size, 0, none⟩ = some (.int .i64 (a)) := H3.cell (e := (w.heap.size, [.int .i64 (a), .int .i64 (b)])) (by simp) (i := 0) rfl
  have c31 : w3.cell? ⟨w.heap.size, 1, none⟩ = some (.int .i64 (b)) := H3.cell (e := (w.heap.size, [.int .i64 (a), .int .i64 (b)])) (by simp) (i := 1) rfl
  have f0 : ∀ i, w3.frozen? ⟨w.heap.size + 1 + 1 + 1, i, none⟩ = false := H3.free (w.heap.size + 1 + 1 + 1, [.int .i64 (0), .int .i64 (0)]) (by simp)
  have f1 : ∀ i, w3.frozen? ⟨w.heap.size + 1 + 1, i, none⟩ = false := H3.free (w.heap.size + 1 + 1, [.int .i64 (0), .int .i64 (0)]) (by simp)
  have z0 : w.heap.size + 1 + 1 + 1 < w3.heap.size := H3.size (e := (w.heap.size + 1 + 1 + 1, [.int .i64 (0), .int .i64 (0)])) (by simp)
  have g00 : ∀ o o', ((w3.alloc o).alloc o').cell? ⟨w.heap.size + 1 + 1 + 1, 0, none⟩ = some (.int .i64 (0)) := fun o o' => ((H3.alloc o).alloc o').cell (e := (w.heap.size + 1 + 1 + 1, [.int .i64 (0), .int .i64 (0)])) (by simp) (i := 0) rfl
  have g01 : ∀ o o', ((w3.alloc o).alloc o').cell? ⟨w.heap.size + 1 + 1 + 1, 1, none⟩ = some (.int .i64 (0)) := fun o o' => ((H3.alloc o).alloc o').cell (e := (w.heap.size + 1 + 1 + 1, [.int .i64 (0), .int .i64 (0)])) (by simp) (i := 1) rfl
  have h0 : ∀ o o' i, ((w3.alloc o).alloc o').frozen? ⟨w.heap.size + 1 + 1 + 1, i, none⟩ = false := fun o o' => ((H3.alloc o).alloc o').free (w.heap.size + 1 + 1 + 1, [.int .i64 (0), .int .i64 (0)]) (by simp)
  have g10 : ∀ o o', ((w3.alloc o).alloc o').cell? ⟨w.heap.size + 1 + 1, 0, none⟩ = some (.int .i64 (0)) := fun o o' => ((H3.alloc o).alloc o').cell (e := (w.heap.size + 1 + 1, [.int .i64 (0), .int .i64 (0)])) (by simp) (i := 0) rfl
  have g11 : ∀ o o', ((w3.alloc o).alloc o').cell? ⟨w.heap.size + 1 + 1, 1, none⟩ = some (.int .i64 (0)) := fun o o' => ((H3.alloc o).alloc o').cell (e := (w.heap.size + 1 + 1, [.int .i64 (0), .int .i64 (0)])) (by simp) (i := 1) rfl
  have h1 : ∀ o o' i, ((w3.alloc o).alloc o').frozen? ⟨w.heap.size + 1 + 1, i, none⟩ = false := fun o o' => ((H3.alloc o).alloc o').free (w.heap.size + 1 + 1, [.int .i64 (0), .int .i64 (0)]) (by simp)
  clear c00 c01 c10 c11 c20 c21 c30 c31 f0 f1
  clear hB a1 a2 a3 a4 a5 a6 a7 a8 hl1 hl2
  by_cases j1 : p ≤ q
  · by_cases j2 : r ≤ s
    · have k : both p q r s = ⟨p, q, r, s, true⟩ := by rw [both, if_pos ⟨j1, j2⟩]
      go_wp2_with fail
      go_region
      all_goals (go_wp2_with fail)
      all_goals (refine bodyPost_ret (v := .tuple #[.agg #[.int .i64 p, .int .i64 q], .agg #[.int .i64 r, .int .i64 s], .bool true]) (by simp [results, Try.results125, go_sem, cell_set, g00, g01, g10, g11]) rfl ⟨by rw [k], ?_⟩)
      all_goals (repeat (first | exact H3.below | refine Below.drew ?_ | refine Below.setCell ?_ (by simp; try omega) _ | refine Below.alloc ?_ (by first | exact H3.below.size | (have := H3.below.size; simp; omega)) _))
    · have k : both p q r s = ⟨0, 0, 0, 0, false⟩ := by rw [both, if_neg (by omega)]; rfl
      go_wp2_with fail
      refine bodyPost_ret (v := .tuple #[.agg #[.int .i64 0, .int .i64 0], .agg #[.int .i64 0, .int .i64 0], .bool false]) (by simp [results, Try.results125, go_sem, cell_set, g00, g01, g10, g11]) rfl ⟨by rw [k], ?_⟩
      repeat (first | exact H3.below | refine Below.drew ?_ | refine Below.setCell ?_ (by simp; try omega) _ | refine Below.alloc ?_ (by first | exact H3.below.size | (have := H3.below.size; simp; omega)) _)
  · have k : both p q r s = ⟨0, 0, 0, 0, false⟩ := by rw [both, if_neg (by omega)]; rfl
    go_wp2_with fail
    refine bodyPost_ret (v := .tuple #[.agg #[.int .i64 0, .int .i64 0], .agg #[.int .i64 0, .int .i64 0], .bool false]) (by simp [results, Try.results125, go_sem, cell_set, g00, g01, g10, g11]) rfl ⟨by rw [k], ?_⟩
    repeat (first | exact H3.below | refine Below.drew ?_ | refine Below.setCell ?_ (by simp; try omega) _ | refine Below.alloc ?_ (by first | exact H3.below.size | (have := H3.below.size; simp; omega)) _)

theorem keepI_3_eq (a b c d p q r s : Int) (w : World) (h : p = max a c ∧ q = min b d ∧ r = max a c ∧ s = min b d)  :
    Calls Try.prog 171 #[.agg #[], .agg #[.int .i64 a, .int .i64 b], .agg #[.int .i64 c, .int .i64 d]] w fun e w' => e = .returned (.tuple #[.agg #[.int .i64 p, .int .i64 q], .agg #[.int .i64 r, .int .i64 s]]) ∧ Below w.heap.size w w' := by
  obtain ⟨rfl, rfl, rfl, rfl⟩ := h
  exact keepI_3 _ _ _ _ _

set_option maxRecDepth 10000 in
set_option maxHeartbeats 4000000 in
theorem keptI_3 (a b c d p q r s : Int) (w : World) (hab : itvOk a b = true) (hcd : itvOk c d = true) (h : p = max a c ∧ q = min b d ∧ r = max a c ∧ s = min b d) :
    Calls Try.prog 125 #[.iface 206 (.agg #[]), .agg #[.int .i64 a, .int .i64 b], .agg #[.int .i64 c, .int .i64 d]] w fun e w' => e = .returned (.tuple #[.agg #[.int .i64 (both p q r s).l0, .int .i64 (both p q r s).h0], .agg #[.int .i64 (both p q r s).l1, .int .i64 (both p q r s).h1], .bool (both p q r s).ok]) ∧ Below w.heap.size w w' := by
  have Hh : Hid (p = max a c ∧ q = min b d ∧ r = max a c ∧ s = min b d) := h
  clear h
  obtain ⟨ha, hb0, hl1⟩ := itvOk_of hab
  obtain ⟨hc0, hd, hl2⟩ := itvOk_of hcd
  have a1 := ok_lo ha
  have a2 := ok_hi ha
  have a3 := ok_lo hb0
  have a4 := ok_hi hb0
  have a5 := ok_lo hc0
  have a6 := ok_hi hc0
  have a7 := ok_lo hd
  have a8 := ok_hi hd
  clear ha hb0 hc0 hd
  go_enter Try.func125, Try.ntmps125
  go_wp2_with fail
  refine (itvOkI _ _ _).mono ?_
  rintro e w1 ⟨rfl, hB⟩
  have H1 := HeldL.next hB (held4 w (.int .i64 a) (.int .i64 b) (.int .i64 c) (.int .i64 d) (.int .i64 0) (.int .i64 0) (.int .i64 0) (.int .i64 0) 75)
  have c00 : w1.cell? ⟨w.heap.size + 1 + 1 + 1, 0, none⟩ = some (.int .i64 (0)) := H1.cell (e := (w.heap.size + 1 + 1 + 1, [.int .i64 (0), .int .i64 (0)])) (by simp) (i := 0) rfl
  have c01 : w1.cell? ⟨w.heap.size + 1 + 1 + 1, 1, none⟩ = some (.int .i64 (0)) := H1.cell (e := (w.heap.size + 1 + 1 + 1, [.int .i64 (0), .int .i64 (0)])) (by simp) (i := 1) rfl
  have c10 : w1.cell? ⟨w.heap.size + 1 + 1, 0, none⟩ = some (.int .i64 (0)) := H1.cell (e := (w.heap.size + 1 + 1, [.int .i64 (0), .int .i64 (0)])) (by simp) (i := 0) rfl
  have c11 : w1.cell? ⟨w.heap.size + 1 + 1, 1, none⟩ = some (.int .i64 (0)) := H1.cell (e := (w.heap.size + 1 + 1, [.int .i64 (0), .int .i64 (0)])) (by simp) (i := 1) rfl
  have c20 : w1.cell? ⟨w.heap.size + 1, 0, none⟩ = some (.int .i64 (c)) := H1.cell (e := (w.heap.size + 1, [.int .i64 (c), .int .i64 (d)])) (by simp) (i := 0) rfl
  have c21 : w1.cell? ⟨w.heap.size + 1, 1, none⟩ = some (.int .i64 (d)) := H1.cell (e := (w.heap.size + 1, [.int .i64 (c), .int .i64 (d)])) (by simp) (i := 1) rfl
  have c30 : w1.cell? ⟨w.heap.size, 0, none⟩ = some (.int .i64 (a)) := H1.cell (e := (w.heap.size, [.int .i64 (a), .int .i64 (b)])) (by simp) (i := 0) rfl
  have c31 : w1.cell? ⟨w.heap.size, 1, none⟩ = some (.int .i64 (b)) := H1.cell (e := (w.heap.size, [.int .i64 (a), .int .i64 (b)])) (by simp) (i := 1) rfl
  have f0 : ∀ i, w1.frozen? ⟨w.heap.size + 1 + 1 + 1, i, none⟩ = false := H1.free (w.heap.size + 1 + 1 + 1, [.int .i64 (0), .int .i64 (0)]) (by simp)
  have f1 : ∀ i, w1.frozen? ⟨w.heap.size + 1 + 1, i, none⟩ = false := H1.free (w.heap.size + 1 + 1, [.int .i64 (0), .int .i64 (0)]) (by simp)
  have z0 : w.heap.size + 1 + 1 + 1 < w1.heap.size := H1.size (e := (w.heap.size + 1 + 1 + 1, [.int .i64 (0), .int .i64 (0)])) (by simp)
  clear hB
  go_wp2_with fail
  refine (itvOkI _ _ _).mono ?_
  rintro e w2 ⟨rfl, hB⟩
  have H2 := HeldL.next hB H1
  clear c00 c01 c10 c11 c20 c21 c30 c31 f0 f1 z0
  have c00 : w2.cell? ⟨w.heap.size + 1 + 1 + 1, 0, none⟩ = some (.int .i64 (0)) := H2.cell (e := (w.heap.size + 1 + 1 + 1, [.int .i64 (0), .int .i64 (0)])) (by simp) (i := 0) rfl
  have c01 : w2.cell? ⟨w.heap.size + 1 + 1 + 1, 1, none⟩ = some (.int .i64 (0)) := H2.cell (e := (w.heap.size + 1 + 1 + 1, [.int .i64 (0), .int .i64 (0)])) (by simp) (i := 1) rfl
  have c10 : w2.cell? ⟨w.heap.size + 1 + 1, 0, none⟩ = some (.int .i64 (0)) := H2.cell (e := (w.heap.size + 1 + 1, [.int .i64 (0), .int .i64 (0)])) (by simp) (i := 0) rfl
  have c11 : w2.cell? ⟨w.heap.size + 1 + 1, 1, none⟩ = some (.int .i64 (0)) := H2.cell (e := (w.heap.size + 1 + 1, [.int .i64 (0), .int .i64 (0)])) (by simp) (i := 1) rfl
  have c20 : w2.cell? ⟨w.heap.size + 1, 0, none⟩ = some (.int .i64 (c)) := H2.cell (e := (w.heap.size + 1, [.int .i64 (c), .int .i64 (d)])) (by simp) (i := 0) rfl
  have c21 : w2.cell? ⟨w.heap.size + 1, 1, none⟩ = some (.int .i64 (d)) := H2.cell (e := (w.heap.size + 1, [.int .i64 (c), .int .i64 (d)])) (by simp) (i := 1) rfl
  have c30 : w2.cell? ⟨w.heap.size, 0, none⟩ = some (.int .i64 (a)) := H2.cell (e := (w.heap.size, [.int .i64 (a), .int .i64 (b)])) (by simp) (i := 0) rfl
  have c31 : w2.cell? ⟨w.heap.size, 1, none⟩ = some (.int .i64 (b)) := H2.cell (e := (w.heap.size, [.int .i64 (a), .int .i64 (b)])) (by simp) (i := 1) rfl
  have f0 : ∀ i, w2.frozen? ⟨w.heap.size + 1 + 1 + 1, i, none⟩ = false := H2.free (w.heap.size + 1 + 1 + 1, [.int .i64 (0), .int .i64 (0)]) (by simp)
  have f1 : ∀ i, w2.frozen? ⟨w.heap.size + 1 + 1, i, none⟩ = false := H2.free (w.heap.size + 1 + 1, [.int .i64 (0), .int .i64 (0)]) (by simp)
  have z0 : w.heap.size + 1 + 1 + 1 < w2.heap.size := H2.size (e := (w.heap.size + 1 + 1 + 1, [.int .i64 (0), .int .i64 (0)])) (by simp)
  clear hB
  go_wp2_with fail
  refine (keepI_3_eq _ _ _ _ p q r s _ Hh).mono ?_
  rintro e w3 ⟨rfl, hB⟩
  have H3 := HeldL.next hB H2
  clear c00 c01 c10 c11 c20 c21 c30 c31 f0 f1 z0
  have c00 : w3.cell? ⟨w.heap.size + 1 + 1 + 1, 0, none⟩ = some (.int .i64 (0)) := H3.cell (e := (w.heap.size + 1 + 1 + 1, [.int .i64 (0), .int .i64 (0)])) (by simp) (i := 0) rfl
  have c01 : w3.cell? ⟨w.heap.size + 1 + 1 + 1, 1, none⟩ = some (.int .i64 (0)) := H3.cell (e := (w.heap.size + 1 + 1 + 1, [.int .i64 (0), .int .i64 (0)])) (by simp) (i := 1) rfl
  have c10 : w3.cell? ⟨w.heap.size + 1 + 1, 0, none⟩ = some (.int .i64 (0)) := H3.cell (e := (w.heap.size + 1 + 1, [.int .i64 (0), .int .i64 (0)])) (by simp) (i := 0) rfl
  have c11 : w3.cell? ⟨w.heap.size + 1 + 1, 1, none⟩ = some (.int .i64 (0)) := H3.cell (e := (w.heap.size + 1 + 1, [.int .i64 (0), .int .i64 (0)])) (by simp) (i := 1) rfl
  have c20 : w3.cell? ⟨w.heap.size + 1, 0, none⟩ = some (.int .i64 (c)) := H3.cell (e := (w.heap.size + 1, [.int .i64 (c), .int .i64 (d)])) (by simp) (i := 0) rfl
  have c21 : w3.cell? ⟨w.heap.size + 1, 1, none⟩ = some (.int .i64 (d)) := H3.cell (e := (w.heap.size + 1, [.int .i64 (c), .int .i64 (d)])) (by simp) (i := 1) rfl
  have c30 : w3.cell? ⟨w.heap.size, 0, none⟩ = some (.int .i64 (a)) := H3.cell (e := (w.heap.size, [.int .i64 (a), .int .i64 (b)])) (by simp) (i := 0) rfl
  have c31 : w3.cell? ⟨w.heap.size, 1, none⟩ = some (.int .i64 (b)) := H3.cell (e := (w.heap.size, [.int .i64 (a), .int .i64 (b)])) (by simp) (i := 1) rfl
  have f0 : ∀ i, w3.frozen? ⟨w.heap.size + 1 + 1 + 1, i, none⟩ = false := H3.free (w.heap.size + 1 + 1 + 1, [.int .i64 (0), .int .i64 (0)]) (by simp)
  have f1 : ∀ i, w3.frozen? ⟨w.heap.size + 1 + 1, i, none⟩ = false := H3.free (w.heap.size + 1 + 1, [.int .i64 (0), .int .i64 (0)]) (by simp)
  have z0 : w.heap.size + 1 + 1 + 1 < w3.heap.size := H3.size (e := (w.heap.size + 1 + 1 + 1, [.int .i64 (0), .int .i64 (0)])) (by simp)
  have g00 : ∀ o o', ((w3.alloc o).alloc o').cell? ⟨w.heap.size + 1 + 1 + 1, 0, none⟩ = some (.int .i64 (0)) := fun o o' => ((H3.alloc o).alloc o').cell (e := (w.heap.size + 1 + 1 + 1, [.int .i64 (0), .int .i64 (0)])) (by simp) (i := 0) rfl
  have g01 : ∀ o o', ((w3.alloc o).alloc o').cell? ⟨w.heap.size + 1 + 1 + 1, 1, none⟩ = some (.int .i64 (0)) := fun o o' => ((H3.alloc o).alloc o').cell (e := (w.heap.size + 1 + 1 + 1, [.int .i64 (0), .int .i64 (0)])) (by simp) (i := 1) rfl
  have h0 : ∀ o o' i, ((w3.alloc o).alloc o').frozen? ⟨w.heap.size + 1 + 1 + 1, i, none⟩ = false := fun o o' => ((H3.alloc o).alloc o').free (w.heap.size + 1 + 1 + 1, [.int .i64 (0), .int .i64 (0)]) (by simp)
  have g10 : ∀ o o', ((w3.alloc o).alloc o').cell? ⟨w.heap.size + 1 + 1, 0, none⟩ = some (.int .i64 (0)) := fun o o' => ((H3.alloc o).alloc o').cell (e := (w.heap.size + 1 + 1, [.int .i64 (0), .int .i64 (0)])) (by simp) (i := 0) rfl
  have g11 : ∀ o o', ((w3.alloc o).alloc o').cell? ⟨w.heap.size + 1 + 1, 1, none⟩ = some (.int .i64 (0)) := fun o o' => ((H3.alloc o).alloc o').cell (e := (w.heap.size + 1 + 1, [.int .i64 (0), .int .i64 (0)])) (by simp) (i := 1) rfl
  have h1 : ∀ o o' i, ((w3.alloc o).alloc o').frozen? ⟨w.heap.size + 1 + 1, i, none⟩ = false := fun o o' => ((H3.alloc o).alloc o').free (w.heap.size + 1 + 1, [.int .i64 (0), .int .i64 (0)]) (by simp)
  clear c00 c01 c10 c11 c20 c21 c30 c31 f0 f1
  clear hB a1 a2 a3 a4 a5 a6 a7 a8 hl1 hl2
  by_cases j1 : p ≤ q
  · by_cases j2 : r ≤ s
    · have k : both p q r s = ⟨p, q, r, s, true⟩ := by rw [both, if_pos ⟨j1, j2⟩]
      go_wp2_with fail
      go_region
      all_goals (go_wp2_with fail)
      all_goals (refine bodyPost_ret (v := .tuple #[.agg #[.int .i64 p, .int .i64 q], .agg #[.int .i64 r, .int .i64 s], .bool true]) (by simp [results, Try.results125, go_sem, cell_set, g00, g01, g10, g11]) rfl ⟨by rw [k], ?_⟩)
      all_goals (repeat (first | exact H3.below | refine Below.drew ?_ | refine Below.setCell ?_ (by simp; try omega) _ | refine Below.alloc ?_ (by first | exact H3.below.size | (have := H3.below.size; simp; omega)) _))
    · have k : both p q r s = ⟨0, 0, 0, 0, false⟩ := by rw [both, if_neg (by omega)]; rfl
      go_wp2_with fail
      refine bodyPost_ret (v := .tuple #[.agg #[.int .i64 0, .int .i64 0], .agg #[.int .i64 0, .int .i64 0], .bool false]) (by simp [results, Try.results125, go_sem, cell_set, g00, g01, g10, g11]) rfl ⟨by rw [k], ?_⟩
      repeat (first | exact H3.below | refine Below.drew ?_ | refine Below.setCell ?_ (by simp; try omega) _ | refine Below.alloc ?_ (by first | exact H3.below.size | (have := H3.below.size; simp; omega)) _)
  · have k : both p q r s = ⟨0, 0, 0, 0, false⟩ := by rw [both, if_neg (by omega)]; rfl
    go_wp2_with fail
    refine bodyPost_ret (v := .tuple #[.agg #[.int .i64 0, .int .i64 0], .agg #[.int .i64 0, .int .i64 0], .bool false]) (by simp [results, Try.results125, go_sem, cell_set, g00, g01, g10, g11]) rfl ⟨by rw [k], ?_⟩
    repeat (first | exact H3.below | refine Below.drew ?_ | refine Below.setCell ?_ (by simp; try omega) _ | refine Below.alloc ?_ (by first | exact H3.below.size | (have := H3.below.size; simp; omega)) _)

theorem keepI_4_eq (a b c d p q r s : Int) (w : World) (h : p = woLo a c d ∧ q = woHi b c d ∧ r = woLo c a b ∧ s = woHi d a b) (a1 : -32768 ≤ a) (a2 : a ≤ 32767) (a3 : -32768 ≤ b) (a4 : b ≤ 32767) (a5 : -32768 ≤ c) (a6 : c ≤ 32767) (a7 : -32768 ≤ d) (a8 : d ≤ 32767) :
    Calls Try.prog 174 #[.agg #[], .agg #[.int .i64 a, .int .i64 b], .agg #[.int .i64 c, .int .i64 d]] w fun e w' => e = .returned (.tuple #[.agg #[.int .i64 p, .int .i64 q], .agg #[.int .i64 r, .int .i64 s]]) ∧ Below w.heap.size w w' := by
  obtain ⟨rfl, rfl, rfl, rfl⟩ := h
  exact keepI_4 _ _ _ _ _ a1 a2 a3 a4 a5 a6 a7 a8

set_option maxRecDepth 10000 in
set_option maxHeartbeats 4000000 in
theorem keptI_4 (a b c d p q r s : Int) (w : World) (hab : itvOk a b = true) (hcd : itvOk c d = true) (h : p = woLo a c d ∧ q = woHi b c d ∧ r = woLo c a b ∧ s = woHi d a b) :
    Calls Try.prog 125 #[.iface 207 (.agg #[]), .agg #[.int .i64 a, .int .i64 b], .agg #[.int .i64 c, .int .i64 d]] w fun e w' => e = .returned (.tuple #[.agg #[.int .i64 (both p q r s).l0, .int .i64 (both p q r s).h0], .agg #[.int .i64 (both p q r s).l1, .int .i64 (both p q r s).h1], .bool (both p q r s).ok]) ∧ Below w.heap.size w w' := by
  have Hh : Hid (p = woLo a c d ∧ q = woHi b c d ∧ r = woLo c a b ∧ s = woHi d a b) := h
  clear h
  obtain ⟨ha, hb0, hl1⟩ := itvOk_of hab
  obtain ⟨hc0, hd, hl2⟩ := itvOk_of hcd
  have a1 := ok_lo ha
  have a2 := ok_hi ha
  have a3 := ok_lo hb0
  have a4 := ok_hi hb0
  have a5 := ok_lo hc0
  have a6 := ok_hi hc0
  have a7 := ok_lo hd
  have a8 := ok_hi hd
  clear ha hb0 hc0 hd
  go_enter Try.func125, Try.ntmps125
  go_wp2_with fail
  refine (itvOkI _ _ _).mono ?_
  rintro e w1 ⟨rfl, hB⟩
  have H1 := HeldL.next hB (held4 w (.int .i64 a) (.int .i64 b) (.int .i64 c) (.int .i64 d) (.int .i64 0) (.int .i64 0) (.int .i64 0) (.int .i64 0) 75)
  have c00 : w1.cell? ⟨w.heap.size + 1 + 1 + 1, 0, none⟩ = some (.int .i64 (0)) := H1.cell (e := (w.heap.size + 1 + 1 + 1, [.int .i64 (0), .int .i64 (0)])) (by simp) (i := 0) rfl
  have c01 : w1.cell? ⟨w.heap.size + 1 + 1 + 1, 1, none⟩ = some (.int .i64 (0)) := H1.cell (e := (w.heap.size + 1 + 1 + 1, [.int .i64 (0), .int .i64 (0)])) (by simp) (i := 1) rfl
  have c10 : w1.cell? ⟨w.heap.size + 1 + 1, 0, none⟩ = some (.int .i64 (0)) := H1.cell (e := (w.heap.size + 1 + 1, [.int .i64 (0), .int .i64 (0)])) (by simp) (i := 0) rfl
  have c11 : w1.cell? ⟨w.heap.size + 1 + 1, 1, none⟩ = some (.int .i64 (0)) := H1.cell (e := (w.heap.size + 1 + 1, [.int .i64 (0), .int .i64 (0)])) (by simp) (i := 1) rfl
  have c20 : w1.cell? ⟨w.heap.size + 1, 0, none⟩ = some (.int .i64 (c)) := H1.cell (e := (w.heap.size + 1, [.int .i64 (c), .int .i64 (d)])) (by simp) (i := 0) rfl
  have c21 : w1.cell? ⟨w.heap.size + 1, 1, none⟩ = some (.int .i64 (d)) := H1.cell (e := (w.heap.size + 1, [.int .i64 (c), .int .i64 (d)])) (by simp) (i := 1) rfl
  have c30 : w1.cell? ⟨w.heap.size, 0, none⟩ = some (.int .i64 (a)) := H1.cell (e := (w.heap.size, [.int .i64 (a), .int .i64 (b)])) (by simp) (i := 0) rfl
  have c31 : w1.cell? ⟨w.heap.size, 1, none⟩ = some (.int .i64 (b)) := H1.cell (e := (w.heap.size, [.int .i64 (a), .int .i64 (b)])) (by simp) (i := 1) rfl
  have f0 : ∀ i, w1.frozen? ⟨w.heap.size + 1 + 1 + 1, i, none⟩ = false := H1.free (w.heap.size + 1 + 1 + 1, [.int .i64 (0), .int .i64 (0)]) (by simp)
  have f1 : ∀ i, w1.frozen? ⟨w.heap.size + 1 + 1, i, none⟩ = false := H1.free (w.heap.size + 1 + 1, [.int .i64 (0), .int .i64 (0)]) (by simp)
  have z0 : w.heap.size + 1 + 1 + 1 < w1.heap.size := H1.size (e := (w.heap.size + 1 + 1 + 1, [.int .i64 (0), .int .i64 (0)])) (by simp)
  clear hB
  go_wp2_with fail
  refine (itvOkI _ _ _).mono ?_
  rintro e w2 ⟨rfl, hB⟩
  have H2 := HeldL.next hB H1
  clear c00 c01 c10 c11 c20 c21 c30 c31 f0 f1 z0
  have c00 : w2.cell? ⟨w.heap.size + 1 + 1 + 1, 0, none⟩ = some (.int .i64 (0)) := H2.cell (e := (w.heap.size + 1 + 1 + 1, [.int .i64 (0), .int .i64 (0)])) (by simp) (i := 0) rfl
  have c01 : w2.cell? ⟨w.heap.size + 1 + 1 + 1, 1, none⟩ = some (.int .i64 (0)) := H2.cell (e := (w.heap.size + 1 + 1 + 1, [.int .i64 (0), .int .i64 (0)])) (by simp) (i := 1) rfl
  have c10 : w2.cell? ⟨w.heap.size + 1 + 1, 0, none⟩ = some (.int .i64 (0)) := H2.cell (e := (w.heap.size + 1 + 1, [.int .i64 (0), .int .i64 (0)])) (by simp) (i := 0) rfl
  have c11 : w2.cell? ⟨w.heap.size + 1 + 1, 1, none⟩ = some (.int .i64 (0)) := H2.cell (e := (w.heap.size + 1 + 1, [.int .i64 (0), .int .i64 (0)])) (by simp) (i := 1) rfl
  have c20 : w2.cell? ⟨w.heap.size + 1, 0, none⟩ = some (.int .i64 (c)) := H2.cell (e := (w.heap.size + 1, [.int .i64 (c), .int .i64 (d)])) (by simp) (i := 0) rfl
  have c21 : w2.cell? ⟨w.heap.size + 1, 1, none⟩ = some (.int .i64 (d)) := H2.cell (e := (w.heap.size + 1, [.int .i64 (c), .int .i64 (d)])) (by simp) (i := 1) rfl
  have c30 : w2.cell? ⟨w.heap.size, 0, none⟩ = some (.int .i64 (a)) := H2.cell (e := (w.heap.size, [.int .i64 (a), .int .i64 (b)])) (by simp) (i := 0) rfl
  have c31 : w2.cell? ⟨w.heap.size, 1, none⟩ = some (.int .i64 (b)) := H2.cell (e := (w.heap.size, [.int .i64 (a), .int .i64 (b)])) (by simp) (i := 1) rfl
  have f0 : ∀ i, w2.frozen? ⟨w.heap.size + 1 + 1 + 1, i, none⟩ = false := H2.free (w.heap.size + 1 + 1 + 1, [.int .i64 (0), .int .i64 (0)]) (by simp)
  have f1 : ∀ i, w2.frozen? ⟨w.heap.size + 1 + 1, i, none⟩ = false := H2.free (w.heap.size + 1 + 1, [.int .i64 (0), .int .i64 (0)]) (by simp)
  have z0 : w.heap.size + 1 + 1 + 1 < w2.heap.size := H2.size (e := (w.heap.size + 1 + 1 + 1, [.int .i64 (0), .int .i64 (0)])) (by simp)
  clear hB
  go_wp2_with fail
  refine (keepI_4_eq _ _ _ _ p q r s _ Hh a1 a2 a3 a4 a5 a6 a7 a8).mono ?_
  rintro e w3 ⟨rfl, hB⟩
  have H3 := HeldL.next hB H2
  clear c00 c01 c10 c11 c20 c21 c30 c31 f0 f1 z0
  have c00 : w3.cell? ⟨w.heap.size + 1 + 1 + 1, 0, none⟩ = some (.int .i64 (0)) := H3.cell (e := (w.heap.size + 1 + 1 + 1, [.int .i64 (0), .int .i64 (0)])) (by simp) (i := 0) rfl
  have c01 : w3.cell? ⟨w.heap.size + 1 + 1 + 1, 1, none⟩ = some (.int .i64 (0)) := H3.cell (e := (w.heap.size + 1 + 1 + 1, [.int .i64 (0), .int .i64 (0)])) (by simp) (i := 1) rfl
  have c10 : w3.cell? ⟨w.heap.size + 1 + 1, 0, none⟩ = some (.int .i64 (0)) := H3.cell (e := (w.heap.size + 1 + 1, [.int .i64 (0), .int .i64 (0)])) (by simp) (i := 0) rfl
  have c11 : w3.cell? ⟨w.heap.size + 1 + 1, 1, none⟩ = some (.int .i64 (0)) := H3.cell (e := (w.heap.size + 1 + 1, [.int .i64 (0), .int .i64 (0)])) (by simp) (i := 1) rfl
  have c20 : w3.cell? ⟨w.heap.size + 1, 0, none⟩ = some (.int .i64 (c)) := H3.cell (e := (w.heap.size + 1, [.int .i64 (c), .int .i64 (d)])) (by simp) (i := 0) rfl
  have c21 : w3.cell? ⟨w.heap.size + 1, 1, none⟩ = some (.int .i64 (d)) := H3.cell (e := (w.heap.size + 1, [.int .i64 (c), .int .i64 (d)])) (by simp) (i := 1) rfl
  have c30 : w3.cell? ⟨w.heap.size, 0, none⟩ = some (.int .i64 (a)) := H3.cell (e := (w.heap.size, [.int .i64 (a), .int .i64 (b)])) (by simp) (i := 0) rfl
  have c31 : w3.cell? ⟨w.heap.size, 1, none⟩ = some (.int .i64 (b)) := H3.cell (e := (w.heap.size, [.int .i64 (a), .int .i64 (b)])) (by simp) (i := 1) rfl
  have f0 : ∀ i, w3.frozen? ⟨w.heap.size + 1 + 1 + 1, i, none⟩ = false := H3.free (w.heap.size + 1 + 1 + 1, [.int .i64 (0), .int .i64 (0)]) (by simp)
  have f1 : ∀ i, w3.frozen? ⟨w.heap.size + 1 + 1, i, none⟩ = false := H3.free (w.heap.size + 1 + 1, [.int .i64 (0), .int .i64 (0)]) (by simp)
  have z0 : w.heap.size + 1 + 1 + 1 < w3.heap.size := H3.size (e := (w.heap.size + 1 + 1 + 1, [.int .i64 (0), .int .i64 (0)])) (by simp)
  have g00 : ∀ o o', ((w3.alloc o).alloc o').cell? ⟨w.heap.size + 1 + 1 + 1, 0, none⟩ = some (.int .i64 (0)) := fun o o' => ((H3.alloc o).alloc o').cell (e := (w.heap.size + 1 + 1 + 1, [.int .i64 (0), .int .i64 (0)])) (by simp) (i := 0) rfl
  have g01 : ∀ o o', ((w3.alloc o).alloc o').cell? ⟨w.heap.size + 1 + 1 + 1, 1, none⟩ = some (.int .i64 (0)) := fun o o' => ((H3.alloc o).alloc o').cell (e := (w.heap.size + 1 + 1 + 1, [.int .i64 (0), .int .i64 (0)])) (by simp) (i := 1) rfl
  have h0 : ∀ o o' i, ((w3.alloc o).alloc o').frozen? ⟨w.heap.size + 1 + 1 + 1, i, none⟩ = false := fun o o' => ((H3.alloc o).alloc o').free (w.heap.size + 1 + 1 + 1, [.int .i64 (0), .int .i64 (0)]) (by simp)
  have g10 : ∀ o o', ((w3.alloc o).alloc o').cell? ⟨w.heap.size + 1 + 1, 0, none⟩ = some (.int .i64 (0)) := fun o o' => ((H3.alloc o).alloc o').cell (e := (w.heap.size + 1 + 1, [.int .i64 (0), .int .i64 (0)])) (by simp) (i := 0) rfl
  have g11 : ∀ o o', ((w3.alloc o).alloc o').cell? ⟨w.heap.size + 1 + 1, 1, none⟩ = some (.int .i64 (0)) := fun o o' => ((H3.alloc o).alloc o').cell (e := (w.heap.size + 1 + 1, [.int .i64 (0), .int .i64 (0)])) (by simp) (i := 1) rfl
  have h1 : ∀ o o' i, ((w3.alloc o).alloc o').frozen? ⟨w.heap.size + 1 + 1, i, none⟩ = false := fun o o' => ((H3.alloc o).alloc o').free (w.heap.size + 1 + 1, [.int .i64 (0), .int .i64 (0)]) (by simp)
  clear c00 c01 c10 c11 c20 c21 c30 c31 f0 f1
  clear hB a1 a2 a3 a4 a5 a6 a7 a8 hl1 hl2
  by_cases j1 : p ≤ q
  · by_cases j2 : r ≤ s
    · have k : both p q r s = ⟨p, q, r, s, true⟩ := by rw [both, if_pos ⟨j1, j2⟩]
      go_wp2_with fail
      go_region
      all_goals (go_wp2_with fail)
      all_goals (refine bodyPost_ret (v := .tuple #[.agg #[.int .i64 p, .int .i64 q], .agg #[.int .i64 r, .int .i64 s], .bool true]) (by simp [results, Try.results125, go_sem, cell_set, g00, g01, g10, g11]) rfl ⟨by rw [k], ?_⟩)
      all_goals (repeat (first | exact H3.below | refine Below.drew ?_ | refine Below.setCell ?_ (by simp; try omega) _ | refine Below.alloc ?_ (by first | exact H3.below.size | (have := H3.below.size; simp; omega)) _))
    · have k : both p q r s = ⟨0, 0, 0, 0, false⟩ := by rw [both, if_neg (by omega)]; rfl
      go_wp2_with fail
      refine bodyPost_ret (v := .tuple #[.agg #[.int .i64 0, .int .i64 0], .agg #[.int .i64 0, .int .i64 0], .bool false]) (by simp [results, Try.results125, go_sem, cell_set, g00, g01, g10, g11]) rfl ⟨by rw [k], ?_⟩
      repeat (first | exact H3.below | refine Below.drew ?_ | refine Below.setCell ?_ (by simp; try omega) _ | refine Below.alloc ?_ (by first | exact H3.below.size | (have := H3.below.size; simp; omega)) _)
  · have k : both p q r s = ⟨0, 0, 0, 0, false⟩ := by rw [both, if_neg (by omega)]; rfl
    go_wp2_with fail
    refine bodyPost_ret (v := .tuple #[.agg #[.int .i64 0, .int .i64 0], .agg #[.int .i64 0, .int .i64 0], .bool false]) (by simp [results, Try.results125, go_sem, cell_set, g00, g01, g10, g11]) rfl ⟨by rw [k], ?_⟩
    repeat (first | exact H3.below | refine Below.drew ?_ | refine Below.setCell ?_ (by simp; try omega) _ | refine Below.alloc ?_ (by first | exact H3.below.size | (have := H3.below.size; simp; omega)) _)

end Go.Proofs.Ytdpkbbbfnmneiaa
