/- What of both can stand otherwise to the other: the program's (I). -/
import Derived.Test.YtdpkbbbfnmneiaaItvRelJ
import Derived.Test.YtdpkbbbfnmneiaaHeldZ
import Derived.WalkKit
import Derived.ProofKit
import Derived.OpenShut
import Derived.Below
import Derived.Stop.Asserts
import Derived.Deep.RegionHeld3
import Derived.Deep.DeepCutAuto
namespace Go.Proofs.Ytdpkbbbfnmneiaa
open Go.ChangeShapes Go.WideShapes Go.ChangeAt Go.RowKit

theorem ord_1 (v : Value) (xT : TypeId) (w : World) : (Instr.typeAssert (.iface 204 v) xT 192 true).run Try.prog w = .ok (.tuple #[.iface 204 v, .bool true]) w := run_typeAssert_hasB Try.underlying192 (by kernel_rfl) v xT w
theorem ord_2 (v : Value) (xT : TypeId) (w : World) : (Instr.typeAssert (.iface 205 v) xT 192 true).run Try.prog w = .ok (.tuple #[.iface 205 v, .bool true]) w := run_typeAssert_hasB Try.underlying192 (by kernel_rfl) v xT w
theorem ord_3 (v : Value) (xT : TypeId) (w : World) : (Instr.typeAssert (.iface 206 v) xT 192 true).run Try.prog w = .ok (.tuple #[.nilIface, .bool false]) w := run_typeAssert_lacksB Try.underlying192 (by kernel_rfl) (by kernel_rfl) v xT w
theorem unord_3 (v : Value) (xT : TypeId) (w : World) : (Instr.typeAssert (.iface 206 v) xT 197 true).run Try.prog w = .ok (.tuple #[.iface 206 v, .bool true]) w := run_typeAssert_hasB Try.underlying197 (by kernel_rfl) v xT w
theorem ord_4 (v : Value) (xT : TypeId) (w : World) : (Instr.typeAssert (.iface 207 v) xT 192 true).run Try.prog w = .ok (.tuple #[.nilIface, .bool false]) w := run_typeAssert_lacksB Try.underlying192 (by kernel_rfl) (by kernel_rfl) v xT w
theorem unord_4 (v : Value) (xT : TypeId) (w : World) : (Instr.typeAssert (.iface 207 v) xT 197 true).run Try.prog w = .ok (.tuple #[.iface 207 v, .bool true]) w := run_typeAssert_hasB Try.underlying197 (by kernel_rfl) v xT w
theorem meth_1 (w : World) : (method 334 204 (.agg #[]) "loop.example/outwork/impl.flipped").run Try.prog w = .ok (167, .agg #[]) w := by kernel_rfl
theorem meth_2 (w : World) : (method 334 205 (.agg #[]) "loop.example/outwork/impl.flipped").run Try.prog w = .ok (169, .agg #[]) w := by kernel_rfl
theorem meth_3 (w : World) : (method 334 206 (.agg #[]) "loop.example/outwork/impl.opposite").run Try.prog w = .ok (172, .agg #[]) w := by kernel_rfl
theorem meth_4 (w : World) : (method 334 207 (.agg #[]) "loop.example/outwork/impl.opposite").run Try.prog w = .ok (175, .agg #[]) w := by kernel_rfl
theorem flippedI_1 (w : World) : Calls Try.prog 167 #[.agg #[]] w fun e w' => e = .returned (.iface 205 (.agg #[])) ∧ Below w.heap.size w w' := by
  go_enter Try.func167, Try.ntmps167
  go_wp2
  go_ret
  exact ⟨rfl, (Below.refl _ _).alloc (Nat.le_refl _) _⟩
theorem flippedI_2 (w : World) : Calls Try.prog 169 #[.agg #[]] w fun e w' => e = .returned (.iface 204 (.agg #[])) ∧ Below w.heap.size w w' := by
  go_enter Try.func169, Try.ntmps169
  go_wp2
  go_ret
  exact ⟨rfl, (Below.refl _ _).alloc (Nat.le_refl _) _⟩
theorem oppositeI_3 (w : World) : Calls Try.prog 172 #[.agg #[]] w fun e w' => e = .returned (.iface 207 (.agg #[])) ∧ Below w.heap.size w w' := by
  go_enter Try.func172, Try.ntmps172
  go_wp2
  go_ret
  exact ⟨rfl, (Below.refl _ _).alloc (Nat.le_refl _) _⟩
theorem oppositeI_4 (w : World) : Calls Try.prog 175 #[.agg #[]] w fun e w' => e = .returned (.iface 206 (.agg #[])) ∧ Below w.heap.size w w' := by
  go_enter Try.func175, Try.ntmps175
  go_wp2
  go_ret
  exact ⟨rfl, (Below.refl _ _).alloc (Nat.le_refl _) _⟩

theorem K4n {w : World} {a b c d : Int} {p q x y : Value} {W : World} (h : HeldL w [(w.heap.size + 1 + 1 + 1, [p, q]), (w.heap.size + 1 + 1, [x, y]), (w.heap.size + 1, [.int .i64 c, .int .i64 d]), (w.heap.size, [.int .i64 a, .int .i64 b])] W) : C4 w.heap.size a b c d W :=
  ⟨h.cell (e := (w.heap.size, [.int .i64 a, .int .i64 b])) (by simp) rfl, h.cell (e := (w.heap.size, [.int .i64 a, .int .i64 b])) (by simp) rfl, h.cell (e := (w.heap.size + 1, [.int .i64 c, .int .i64 d])) (by simp) rfl, h.cell (e := (w.heap.size + 1, [.int .i64 c, .int .i64 d])) (by simp) rfl⟩

set_option maxRecDepth 10000 in
set_option maxHeartbeats 4000000 in
theorem itvNotI_3 (a b c d : Int) (w : World) :
    Calls Try.prog 109 #[.int .i64 3, .agg #[.int .i64 a, .int .i64 b], .agg #[.int .i64 c, .int .i64 d]] w fun e w' => e = .returned (.tuple #[.agg #[.int .i64 (itvRel 4 a b c d).l0, .int .i64 (itvRel 4 a b c d).h0], .agg #[.int .i64 (itvRel 4 a b c d).l1, .int .i64 (itvRel 4 a b c d).h1], .bool (itvRel 4 a b c d).ok]) ∧ Below w.heap.size w w' := by
  have q1 := ord_3
  have q2 := unord_3
  go_enter Try.func109, Try.ntmps109
  go_wp2_with (go_at_call 124; refine (standOfI_3 _).mono ?_; rintro e w' ⟨rfl, rfl⟩)
  have hX := held4 w (.int .i64 a) (.int .i64 b) (.int .i64 c) (.int .i64 d) (.int .i64 0) (.int .i64 0) (.int .i64 0) (.int .i64 0) 75
  generalize (((w.alloc (Obj.cells #[Value.int IntKind.i64 a, Value.int IntKind.i64 b] 75)).alloc (Obj.cells #[Value.int IntKind.i64 c, Value.int IntKind.i64 d] 75)).alloc (Obj.cells #[Value.int IntKind.i64 0, Value.int IntKind.i64 0] 75)).alloc (Obj.cells #[Value.int IntKind.i64 0, Value.int IntKind.i64 0] 75) = w0 at hX ⊢
  clear q1 q2
  have q3 := meth_3
  go_region_held3 (fun W => W.cell? ⟨w.heap.size, 0, none⟩ = some (.int .i64 a) ∧ W.cell? ⟨w.heap.size, 1, none⟩ = some (.int .i64 b) ∧ W.cell? ⟨w.heap.size + 1, 0, none⟩ = some (.int .i64 c) ∧ W.cell? ⟨w.heap.size + 1, 1, none⟩ = some (.int .i64 d)) (first | exact K4n hX.drew | exact K4n hX | exact C4.set (by dsimp only; omega) (C4.set (by dsimp only; omega) (by assumption))) (first | (go_at_call 172; refine (oppositeI_3 _).mono ?_; rintro e w' ⟨rfl, hB⟩; replace hX := HeldL.next hB (by first | exact hX | exact hX.drew); have c20 : w'.cell? ⟨w.heap.size + 1 + 1, 0, none⟩ = some (.int .i64 0) := hX.cell (e := (w.heap.size + 1 + 1, [.int .i64 0, .int .i64 0])) (by simp) (i := 0) rfl; have c21 : w'.cell? ⟨w.heap.size + 1 + 1, 1, none⟩ = some (.int .i64 0) := hX.cell (e := (w.heap.size + 1 + 1, [.int .i64 0, .int .i64 0])) (by simp) (i := 1) rfl; have f2 : ∀ i, w'.frozen? ⟨w.heap.size + 1 + 1, i, none⟩ = false := hX.free (w.heap.size + 1 + 1, [.int .i64 0, .int .i64 0]) (by simp); have c30 : w'.cell? ⟨w.heap.size + 1 + 1 + 1, 0, none⟩ = some (.int .i64 0) := hX.cell (e := (w.heap.size + 1 + 1 + 1, [.int .i64 0, .int .i64 0])) (by simp) (i := 0) rfl; have c31 : w'.cell? ⟨w.heap.size + 1 + 1 + 1, 1, none⟩ = some (.int .i64 0) := hX.cell (e := (w.heap.size + 1 + 1 + 1, [.int .i64 0, .int .i64 0])) (by simp) (i := 1) rfl; have f3 : ∀ i, w'.frozen? ⟨w.heap.size + 1 + 1 + 1, i, none⟩ = false := hX.free (w.heap.size + 1 + 1 + 1, [.int .i64 0, .int .i64 0]) (by simp)) | (go_at_call 125; refine (keptR_4 _ _ _ _ _).mono ?_; rintro e w' ⟨rfl, hB⟩; replace hX := HeldL.next hB (by first | exact hX | exact hX.drew); have c20 : w'.cell? ⟨w.heap.size + 1 + 1, 0, none⟩ = some (.int .i64 0) := hX.cell (e := (w.heap.size + 1 + 1, [.int .i64 0, .int .i64 0])) (by simp) (i := 0) rfl; have c21 : w'.cell? ⟨w.heap.size + 1 + 1, 1, none⟩ = some (.int .i64 0) := hX.cell (e := (w.heap.size + 1 + 1, [.int .i64 0, .int .i64 0])) (by simp) (i := 1) rfl; have f2 : ∀ i, w'.frozen? ⟨w.heap.size + 1 + 1, i, none⟩ = false := hX.free (w.heap.size + 1 + 1, [.int .i64 0, .int .i64 0]) (by simp); have c30 : w'.cell? ⟨w.heap.size + 1 + 1 + 1, 0, none⟩ = some (.int .i64 0) := hX.cell (e := (w.heap.size + 1 + 1 + 1, [.int .i64 0, .int .i64 0])) (by simp) (i := 0) rfl; have c31 : w'.cell? ⟨w.heap.size + 1 + 1 + 1, 1, none⟩ = some (.int .i64 0) := hX.cell (e := (w.heap.size + 1 + 1 + 1, [.int .i64 0, .int .i64 0])) (by simp) (i := 1) rfl; have f3 : ∀ i, w'.frozen? ⟨w.heap.size + 1 + 1 + 1, i, none⟩ = false := hX.free (w.heap.size + 1 + 1 + 1, [.int .i64 0, .int .i64 0]) (by simp)))
  all_goals (go_wp2_with fail)
  all_goals (refine bodyPost_ret (v := .tuple #[.agg #[.int .i64 (itvRel 4 a b c d).l0, .int .i64 (itvRel 4 a b c d).h0], .agg #[.int .i64 (itvRel 4 a b c d).l1, .int .i64 (itvRel 4 a b c d).h1], .bool (itvRel 4 a b c d).ok]) (by simp [results, Try.results109, go_sem, cell_set, c20, c21, c30, c31]) rfl ⟨rfl, ?_⟩)
  all_goals (repeat (first | exact hX.below | refine Below.drew ?_ | refine Below.setCell ?_ (by simp; try omega) _))

set_option maxRecDepth 10000 in
set_option maxHeartbeats 4000000 in
theorem itvNotI_4 (a b c d : Int) (w : World) :
    Calls Try.prog 109 #[.int .i64 4, .agg #[.int .i64 a, .int .i64 b], .agg #[.int .i64 c, .int .i64 d]] w fun e w' => e = .returned (.tuple #[.agg #[.int .i64 (itvRel 3 a b c d).l0, .int .i64 (itvRel 3 a b c d).h0], .agg #[.int .i64 (itvRel 3 a b c d).l1, .int .i64 (itvRel 3 a b c d).h1], .bool (itvRel 3 a b c d).ok]) ∧ Below w.heap.size w w' := by
  have q1 := ord_4
  have q2 := unord_4
  go_enter Try.func109, Try.ntmps109
  go_wp2_with (go_at_call 124; refine (standOfI_4 _).mono ?_; rintro e w' ⟨rfl, rfl⟩)
  have hX := held4 w (.int .i64 a) (.int .i64 b) (.int .i64 c) (.int .i64 d) (.int .i64 0) (.int .i64 0) (.int .i64 0) (.int .i64 0) 75
  generalize (((w.alloc (Obj.cells #[Value.int IntKind.i64 a, Value.int IntKind.i64 b] 75)).alloc (Obj.cells #[Value.int IntKind.i64 c, Value.int IntKind.i64 d] 75)).alloc (Obj.cells #[Value.int IntKind.i64 0, Value.int IntKind.i64 0] 75)).alloc (Obj.cells #[Value.int IntKind.i64 0, Value.int IntKind.i64 0] 75) = w0 at hX ⊢
  clear q1 q2
  have q3 := meth_4
  go_region_held3 (fun W => W.cell? ⟨w.heap.size, 0, none⟩ = some (.int .i64 a) ∧ W.cell? ⟨w.heap.size, 1, none⟩ = some (.int .i64 b) ∧ W.cell? ⟨w.heap.size + 1, 0, none⟩ = some (.int .i64 c) ∧ W.cell? ⟨w.heap.size + 1, 1, none⟩ = some (.int .i64 d)) (first | exact K4n hX.drew | exact K4n hX | exact C4.set (by dsimp only; omega) (C4.set (by dsimp only; omega) (by assumption))) (first | (go_at_call 175; refine (oppositeI_4 _).mono ?_; rintro e w' ⟨rfl, hB⟩; replace hX := HeldL.next hB (by first | exact hX | exact hX.drew); have c20 : w'.cell? ⟨w.heap.size + 1 + 1, 0, none⟩ = some (.int .i64 0) := hX.cell (e := (w.heap.size + 1 + 1, [.int .i64 0, .int .i64 0])) (by simp) (i := 0) rfl; have c21 : w'.cell? ⟨w.heap.size + 1 + 1, 1, none⟩ = some (.int .i64 0) := hX.cell (e := (w.heap.size + 1 + 1, [.int .i64 0, .int .i64 0])) (by simp) (i := 1) rfl; have f2 : ∀ i, w'.frozen? ⟨w.heap.size + 1 + 1, i, none⟩ = false := hX.free (w.heap.size + 1 + 1, [.int .i64 0, .int .i64 0]) (by simp); have c30 : w'.cell? ⟨w.heap.size + 1 + 1 + 1, 0, none⟩ = some (.int .i64 0) := hX.cell (e := (w.heap.size + 1 + 1 + 1, [.int .i64 0, .int .i64 0])) (by simp) (i := 0) rfl; have c31 : w'.cell? ⟨w.heap.size + 1 + 1 + 1, 1, none⟩ = some (.int .i64 0) := hX.cell (e := (w.heap.size + 1 + 1 + 1, [.int .i64 0, .int .i64 0])) (by simp) (i := 1) rfl; have f3 : ∀ i, w'.frozen? ⟨w.heap.size + 1 + 1 + 1, i, none⟩ = false := hX.free (w.heap.size + 1 + 1 + 1, [.int .i64 0, .int .i64 0]) (by simp)) | (go_at_call 125; refine (keptR_3 _ _ _ _ _).mono ?_; rintro e w' ⟨rfl, hB⟩; replace hX := HeldL.next hB (by first | exact hX | exact hX.drew); have c20 : w'.cell? ⟨w.heap.size + 1 + 1, 0, none⟩ = some (.int .i64 0) := hX.cell (e := (w.heap.size + 1 + 1, [.int .i64 0, .int .i64 0])) (by simp) (i := 0) rfl; have c21 : w'.cell? ⟨w.heap.size + 1 + 1, 1, none⟩ = some (.int .i64 0) := hX.cell (e := (w.heap.size + 1 + 1, [.int .i64 0, .int .i64 0])) (by simp) (i := 1) rfl; have f2 : ∀ i, w'.frozen? ⟨w.heap.size + 1 + 1, i, none⟩ = false := hX.free (w.heap.size + 1 + 1, [.int .i64 0, .int .i64 0]) (by simp); have c30 : w'.cell? ⟨w.heap.size + 1 + 1 + 1, 0, none⟩ = some (.int .i64 0) := hX.cell (e := (w.heap.size + 1 + 1 + 1, [.int .i64 0, .int .i64 0])) (by simp) (i := 0) rfl; have c31 : w'.cell? ⟨w.heap.size + 1 + 1 + 1, 1, none⟩ = some (.int .i64 0) := hX.cell (e := (w.heap.size + 1 + 1 + 1, [.int .i64 0, .int .i64 0])) (by simp) (i := 1) rfl; have f3 : ∀ i, w'.frozen? ⟨w.heap.size + 1 + 1 + 1, i, none⟩ = false := hX.free (w.heap.size + 1 + 1 + 1, [.int .i64 0, .int .i64 0]) (by simp)))
  all_goals (go_wp2_with fail)
  all_goals (refine bodyPost_ret (v := .tuple #[.agg #[.int .i64 (itvRel 3 a b c d).l0, .int .i64 (itvRel 3 a b c d).h0], .agg #[.int .i64 (itvRel 3 a b c d).l1, .int .i64 (itvRel 3 a b c d).h1], .bool (itvRel 3 a b c d).ok]) (by simp [results, Try.results109, go_sem, cell_set, c20, c21, c30, c31]) rfl ⟨rfl, ?_⟩)
  all_goals (repeat (first | exact hX.below | refine Below.drew ?_ | refine Below.setCell ?_ (by simp; try omega) _))

set_option maxRecDepth 10000 in
set_option maxHeartbeats 40000000 in
theorem itvNotI_1 (a b c d : Int) (w : World) :
    Calls Try.prog 109 #[.int .i64 1, .agg #[.int .i64 a, .int .i64 b], .agg #[.int .i64 c, .int .i64 d]] w fun e w' => e = .returned (.tuple #[.agg #[.int .i64 (itvRel 2 c d a b).l1, .int .i64 (itvRel 2 c d a b).h1], .agg #[.int .i64 (itvRel 2 c d a b).l0, .int .i64 (itvRel 2 c d a b).h0], .bool (itvRel 2 c d a b).ok]) ∧ Below w.heap.size w w' := by
  have q1 := ord_1
  go_enter Try.func109, Try.ntmps109
  go_wp2_with (go_at_call 124; refine (standOfI_1 _).mono ?_; rintro e w' ⟨rfl, rfl⟩)
  have hX := held4 w (.int .i64 a) (.int .i64 b) (.int .i64 c) (.int .i64 d) (.int .i64 0) (.int .i64 0) (.int .i64 0) (.int .i64 0) 75
  generalize (((w.alloc (Obj.cells #[Value.int IntKind.i64 a, Value.int IntKind.i64 b] 75)).alloc (Obj.cells #[Value.int IntKind.i64 c, Value.int IntKind.i64 d] 75)).alloc (Obj.cells #[Value.int IntKind.i64 0, Value.int IntKind.i64 0] 75)).alloc (Obj.cells #[Value.int IntKind.i64 0, Value.int IntKind.i64 0] 75) = w0 at hX ⊢
  clear q1
  have q3 := meth_1
  obtain ⟨L, hL⟩ : ∃ L, L = [(w.heap.size + 1 + 1 + 1, [Value.int .i64 0, Value.int .i64 0]), (w.heap.size + 1 + 1, [Value.int .i64 0, Value.int .i64 0]), (w.heap.size + 1, [Value.int .i64 c, Value.int .i64 d]), (w.heap.size, [Value.int .i64 a, Value.int .i64 b])] := ⟨_, rfl⟩
  rw [← hL] at hX
  have mm : (w.heap.size, [Value.int .i64 a, .int .i64 b]) ∈ L ∧ (w.heap.size + 1, [Value.int .i64 c, .int .i64 d]) ∈ L := by rw [hL]; simp
  have m2 : (w.heap.size + 1 + 1, [Value.int .i64 0, .int .i64 0]) ∈ L := by rw [hL]; simp
  have m3 : (w.heap.size + 1 + 1 + 1, [Value.int .i64 0, .int .i64 0]) ∈ L := by rw [hL]; simp
  obtain ⟨U, hT⟩ : ∃ U, U = w.heap.size + 1 + 1 + 1 := ⟨_, rfl⟩
  have wT : w.heap.size + 1 + 1 < U := by omega
  have mT : (U, [Value.int .i64 0, .int .i64 0]) ∈ L := by rw [hT]; exact m3
  have lT : ∀ e ∈ L, e.1 ≤ U := by
    rw [hL, hT]; intro e he
    simp at he
    rcases he with rfl | rfl | rfl | rfl <;> simp only [] <;> omega
  have qT : ∀ W : World, U < W.heap.size → ∀ e ∈ L, e.1 < W.heap.size := fun W h e he => Nat.lt_of_le_of_lt (lT e he) h
  have nT : ∀ k : Nat, U < k → ∀ e ∈ L, e.1 ≠ k := fun k h e he => by have := lT e he; omega
  have zT : U < w0.heap.size := hX.size mT
  have HT : Hid (U = w.heap.size + 1 + 1 + 1) := hT
  clear hL hT
  have hG := hX
  go_cut [12, 13, 14] (fun p0 p1 p2 W => ∃ g0 g1, p0 = .pointer (some ⟨g0, 0, none⟩) ∧ U < g0 ∧ p1 = .pointer (some ⟨g1, 0, none⟩) ∧ U < g1 ∧ p2 = .bool (itvRel 2 c d a b).ok ∧ W.cell? ⟨g0, 0, none⟩ = some (.int .i64 (itvRel 2 c d a b).l0) ∧ W.cell? ⟨g0, 1, none⟩ = some (.int .i64 (itvRel 2 c d a b).h0) ∧ W.cell? ⟨g1, 0, none⟩ = some (.int .i64 (itvRel 2 c d a b).l1) ∧ W.cell? ⟨g1, 1, none⟩ = some (.int .i64 (itvRel 2 c d a b).h1) ∧ HeldL w L W)
  case first =>
    go_region_held3 (fun W => W.cell? ⟨w.heap.size, 0, none⟩ = some (.int .i64 a) ∧ W.cell? ⟨w.heap.size, 1, none⟩ = some (.int .i64 b) ∧ W.cell? ⟨w.heap.size + 1, 0, none⟩ = some (.int .i64 c) ∧ W.cell? ⟨w.heap.size + 1, 1, none⟩ = some (.int .i64 d) ∧ HeldL w L W) (first | exact K4.of mm hX.drew | exact K4.of mm hH | exact K4.of mm (HeldL.alloc _ (HeldL.alloc _ hH)) | exact K4.of mm (HeldL.alloc _ hH) | exact K4.of mm (HeldL.alloc _ (K4.held (by assumption))) | exact K4.of mm (HeldL.setCell _ _ (by dsimp only; omega) (nT _ (by dsimp only; omega)) (HeldL.setCell _ _ (by dsimp only; omega) (nT _ (by dsimp only; omega)) (K4.held (by assumption)))) | exact K4.of mm (HeldL.setCell _ _ (by dsimp only; omega) (nT _ (by dsimp only; omega)) (HeldL.setCell _ _ (by dsimp only; omega) (nT _ (by dsimp only; omega)) (HeldL.alloc _ hH)))) (first | (go_at_call 167; refine (flippedI_1 _).mono ?_; rintro e w' ⟨rfl, hb⟩; have hH := HeldL.next hb (K4.held (by assumption)); have hzz := hH.size mT; have hG : HeldL w _ w' := (by first | exact HeldL.next hb (HeldL.new2 hG) | exact HeldL.next hb (HeldL.new hG) | exact HeldL.next hb hG | exact HeldL.next hb (HeldL.drew (HeldL.new2 hG)) | exact HeldL.next hb (HeldL.drew (HeldL.new hG)) | exact HeldL.next hb (HeldL.drew hG)); try (have hv := hG.zf List.mem_cons_self); try (have hu := hG.zf (List.mem_cons_of_mem _ List.mem_cons_self))) | (go_at_call 125; refine (keptR_2 _ _ _ _ _).mono ?_; rintro e w' ⟨rfl, hb⟩; have hH := HeldL.next hb (K4.held (by assumption)); have hzz := hH.size mT; have hG : HeldL w _ w' := (by first | exact HeldL.next hb (HeldL.new2 hG) | exact HeldL.next hb (HeldL.new hG) | exact HeldL.next hb hG | exact HeldL.next hb (HeldL.drew (HeldL.new2 hG)) | exact HeldL.next hb (HeldL.drew (HeldL.new hG)) | exact HeldL.next hb (HeldL.drew hG)); try (have hv := hG.zf List.mem_cons_self); try (have hu := hG.zf (List.mem_cons_of_mem _ List.mem_cons_self))))
    all_goals (go_wp2_with fail)
    all_goals go_meet
    all_goals (refine ⟨_, _, rfl, by omega, rfl, by omega, rfl, ?_⟩)
    all_goals (first | (with_reducible refine fin4 (p := .int .i64 0) (q := .int .i64 0) (u := .int .i64 0) (v := .int .i64 0) (P := fun W => HeldL w L W) ?_ ?_ ?_ ?_ ?_ ?_) | (with_reducible refine fin2 (u := .int .i64 0) (v := .int .i64 0) (P := fun W => HeldL w L W) ?_ ?_ ?_ ?_ ?_ ?_) | (refine ⟨by simp, by simp, by simp, by simp, ?_⟩))
    all_goals (first | exact K4.held (a := a) (b := b) (c := c) (d := d) (by assumption) | omega | (first | with_reducible exact hv.1.1 | with_reducible exact hu.1.1 | with_reducible exact (hv.2.1 _).1 | with_reducible exact (hu.2.1 _).1 | simp) | (first | with_reducible exact hv.1.2.1 | with_reducible exact hu.1.2.1 | with_reducible exact (hv.2.1 _).2.1 | with_reducible exact (hu.2.1 _).2.1 | simp))
  case rest =>
    obtain ⟨g0, g1, rfl, hg0, rfl, hg1, rfl, k0, k1, k2, k3, hY⟩ := hcut
    have hT : U = w.heap.size + 1 + 1 + 1 := HT
    have n0 : ¬ g0 = w.heap.size + 1 + 1 := by omega
    have n1 : ¬ g1 = w.heap.size + 1 + 1 := by omega
    have n2 : ¬ g0 = w.heap.size + 1 + 1 + 1 := by omega
    have n3 : ¬ g1 = w.heap.size + 1 + 1 + 1 := by omega
    clear hT HT hg0 hg1
    have c20 : wc.cell? ⟨w.heap.size + 1 + 1, 0, none⟩ = some (.int .i64 0) := hY.cell m2 (i := 0) rfl
    have c21 : wc.cell? ⟨w.heap.size + 1 + 1, 1, none⟩ = some (.int .i64 0) := hY.cell m2 (i := 1) rfl
    have c30 : wc.cell? ⟨w.heap.size + 1 + 1 + 1, 0, none⟩ = some (.int .i64 0) := hY.cell m3 (i := 0) rfl
    have c31 : wc.cell? ⟨w.heap.size + 1 + 1 + 1, 1, none⟩ = some (.int .i64 0) := hY.cell m3 (i := 1) rfl
    have f2 : ∀ i, wc.frozen? ⟨w.heap.size + 1 + 1, i, none⟩ = false := hY.free _ m2
    have f3 : ∀ i, wc.frozen? ⟨w.heap.size + 1 + 1 + 1, i, none⟩ = false := hY.free _ m3
    have bY := hY.below
    clear hY hX hG mm m2 m3 mT lT qT nT zT wT q3
    go_wp2_with fail
    go_region
    all_goals (go_wp2_with fail)
    all_goals (refine bodyPost_ret (v := .tuple #[.agg #[.int .i64 (itvRel 2 c d a b).l1, .int .i64 (itvRel 2 c d a b).h1], .agg #[.int .i64 (itvRel 2 c d a b).l0, .int .i64 (itvRel 2 c d a b).h0], .bool (itvRel 2 c d a b).ok]) (by simp [results, Try.results109, go_sem, cell_set, c20, c21, c30, c31]) rfl ⟨rfl, ?_⟩)
    all_goals (repeat (first | exact bY | refine Below.drew ?_ | refine Below.setCell ?_ (by simp; try omega) _))

set_option maxRecDepth 10000 in
set_option maxHeartbeats 40000000 in
theorem itvNotI_2 (a b c d : Int) (w : World) :
    Calls Try.prog 109 #[.int .i64 2, .agg #[.int .i64 a, .int .i64 b], .agg #[.int .i64 c, .int .i64 d]] w fun e w' => e = .returned (.tuple #[.agg #[.int .i64 (itvRel 1 c d a b).l1, .int .i64 (itvRel 1 c d a b).h1], .agg #[.int .i64 (itvRel 1 c d a b).l0, .int .i64 (itvRel 1 c d a b).h0], .bool (itvRel 1 c d a b).ok]) ∧ Below w.heap.size w w' := by
  have q1 := ord_2
  go_enter Try.func109, Try.ntmps109
  go_wp2_with (go_at_call 124; refine (standOfI_2 _).mono ?_; rintro e w' ⟨rfl, rfl⟩)
  have hX := held4 w (.int .i64 a) (.int .i64 b) (.int .i64 c) (.int .i64 d) (.int .i64 0) (.int .i64 0) (.int .i64 0) (.int .i64 0) 75
  generalize (((w.alloc (Obj.cells #[Value.int IntKind.i64 a, Value.int IntKind.i64 b] 75)).alloc (Obj.cells #[Value.int IntKind.i64 c, Value.int IntKind.i64 d] 75)).alloc (Obj.cells #[Value.int IntKind.i64 0, Value.int IntKind.i64 0] 75)).alloc (Obj.cells #[Value.int IntKind.i64 0, Value.int IntKind.i64 0] 75) = w0 at hX ⊢
  clear q1
  have q3 := meth_2
  obtain ⟨L, hL⟩ : ∃ L, L = [(w.heap.size + 1 + 1 + 1, [Value.int .i64 0, Value.int .i64 0]), (w.heap.size + 1 + 1, [Value.int .i64 0, Value.int .i64 0]), (w.heap.size + 1, [Value.int .i64 c, Value.int .i64 d]), (w.heap.size, [Value.int .i64 a, Value.int .i64 b])] := ⟨_, rfl⟩
  rw [← hL] at hX
  have mm : (w.heap.size, [Value.int .i64 a, .int .i64 b]) ∈ L ∧ (w.heap.size + 1, [Value.int .i64 c, .int .i64 d]) ∈ L := by rw [hL]; simp
  have m2 : (w.heap.size + 1 + 1, [Value.int .i64 0, .int .i64 0]) ∈ L := by rw [hL]; simp
  have m3 : (w.heap.size + 1 + 1 + 1, [Value.int .i64 0, .int .i64 0]) ∈ L := by rw [hL]; simp
  obtain ⟨U, hT⟩ : ∃ U, U = w.heap.size + 1 + 1 + 1 := ⟨_, rfl⟩
  have wT : w.heap.size + 1 + 1 < U := by omega
  have mT : (U, [Value.int .i64 0, .int .i64 0]) ∈ L := by rw [hT]; exact m3
  have lT : ∀ e ∈ L, e.1 ≤ U := by
    rw [hL, hT]; intro e he
    simp at he
    rcases he with rfl | rfl | rfl | rfl <;> simp only [] <;> omega
  have qT : ∀ W : World, U < W.heap.size → ∀ e ∈ L, e.1 < W.heap.size := fun W h e he => Nat.lt_of_le_of_lt (lT e he) h
  have nT : ∀ k : Nat, U < k → ∀ e ∈ L, e.1 ≠ k := fun k h e he => by have := lT e he; omega
  have zT : U < w0.heap.size := hX.size mT
  have HT : Hid (U = w.heap.size + 1 + 1 + 1) := hT
  clear hL hT
  have hG := hX
  go_cut [12, 13, 14] (fun p0 p1 p2 W => ∃ g0 g1, p0 = .pointer (some ⟨g0, 0, none⟩) ∧ U < g0 ∧ p1 = .pointer (some ⟨g1, 0, none⟩) ∧ U < g1 ∧ p2 = .bool (itvRel 1 c d a b).ok ∧ W.cell? ⟨g0, 0, none⟩ = some (.int .i64 (itvRel 1 c d a b).l0) ∧ W.cell? ⟨g0, 1, none⟩ = some (.int .i64 (itvRel 1 c d a b).h0) ∧ W.cell? ⟨g1, 0, none⟩ = some (.int .i64 (itvRel 1 c d a b).l1) ∧ W.cell? ⟨g1, 1, none⟩ = some (.int .i64 (itvRel 1 c d a b).h1) ∧ HeldL w L W)
  case first =>
    go_region_held3 (fun W => W.cell? ⟨w.heap.size, 0, none⟩ = some (.int .i64 a) ∧ W.cell? ⟨w.heap.size, 1, none⟩ = some (.int .i64 b) ∧ W.cell? ⟨w.heap.size + 1, 0, none⟩ = some (.int .i64 c) ∧ W.cell? ⟨w.heap.size + 1, 1, none⟩ = some (.int .i64 d) ∧ HeldL w L W) (first | exact K4.of mm hX.drew | exact K4.of mm hH | exact K4.of mm (HeldL.alloc _ (HeldL.alloc _ hH)) | exact K4.of mm (HeldL.alloc _ hH) | exact K4.of mm (HeldL.alloc _ (K4.held (by assumption))) | exact K4.of mm (HeldL.setCell _ _ (by dsimp only; omega) (nT _ (by dsimp only; omega)) (HeldL.setCell _ _ (by dsimp only; omega) (nT _ (by dsimp only; omega)) (K4.held (by assumption)))) | exact K4.of mm (HeldL.setCell _ _ (by dsimp only; omega) (nT _ (by dsimp only; omega)) (HeldL.setCell _ _ (by dsimp only; omega) (nT _ (by dsimp only; omega)) (HeldL.alloc _ hH)))) (first | (go_at_call 169; refine (flippedI_2 _).mono ?_; rintro e w' ⟨rfl, hb⟩; have hH := HeldL.next hb (K4.held (by assumption)); have hzz := hH.size mT; have hG : HeldL w _ w' := (by first | exact HeldL.next hb (HeldL.new2 hG) | exact HeldL.next hb (HeldL.new hG) | exact HeldL.next hb hG | exact HeldL.next hb (HeldL.drew (HeldL.new2 hG)) | exact HeldL.next hb (HeldL.drew (HeldL.new hG)) | exact HeldL.next hb (HeldL.drew hG)); try (have hv := hG.zf List.mem_cons_self); try (have hu := hG.zf (List.mem_cons_of_mem _ List.mem_cons_self))) | (go_at_call 125; refine (keptR_1 _ _ _ _ _).mono ?_; rintro e w' ⟨rfl, hb⟩; have hH := HeldL.next hb (K4.held (by assumption)); have hzz := hH.size mT; have hG : HeldL w _ w' := (by first | exact HeldL.next hb (HeldL.new2 hG) | exact HeldL.next hb (HeldL.new hG) | exact HeldL.next hb hG | exact HeldL.next hb (HeldL.drew (HeldL.new2 hG)) | exact HeldL.next hb (HeldL.drew (HeldL.new hG)) | exact HeldL.next hb (HeldL.drew hG)); try (have hv := hG.zf List.mem_cons_self); try (have hu := hG.zf (List.mem_cons_of_mem _ List.mem_cons_self))))
    all_goals (go_wp2_with fail)
    all_goals go_meet
    all_goals (refine ⟨_, _, rfl, by omega, rfl, by omega, rfl, ?_⟩)
    all_goals (first | (with_reducible refine fin4 (p := .int .i64 0) (q := .int .i64 0) (u := .int .i64 0) (v := .int .i64 0) (P := fun W => HeldL w L W) ?_ ?_ ?_ ?_ ?_ ?_) | (with_reducible refine fin2 (u := .int .i64 0) (v := .int .i64 0) (P := fun W => HeldL w L W) ?_ ?_ ?_ ?_ ?_ ?_) | (refine ⟨by simp, by simp, by simp, by simp, ?_⟩))
    all_goals (first | exact K4.held (a := a) (b := b) (c := c) (d := d) (by assumption) | omega | (first | with_reducible exact hv.1.1 | with_reducible exact hu.1.1 | with_reducible exact (hv.2.1 _).1 | with_reducible exact (hu.2.1 _).1 | simp) | (first | with_reducible exact hv.1.2.1 | with_reducible exact hu.1.2.1 | with_reducible exact (hv.2.1 _).2.1 | with_reducible exact (hu.2.1 _).2.1 | simp))
  case rest =>
    obtain ⟨g0, g1, rfl, hg0, rfl, hg1, rfl, k0, k1, k2, k3, hY⟩ := hcut
    have hT : U = w.heap.size + 1 + 1 + 1 := HT
    have n0 : ¬ g0 = w.heap.size + 1 + 1 := by omega
    have n1 : ¬ g1 = w.heap.size + 1 + 1 := by omega
    have n2 : ¬ g0 = w.heap.size + 1 + 1 + 1 := by omega
    have n3 : ¬ g1 = w.heap.size + 1 + 1 + 1 := by omega
    clear hT HT hg0 hg1
    have c20 : wc.cell? ⟨w.heap.size + 1 + 1, 0, none⟩ = some (.int .i64 0) := hY.cell m2 (i := 0) rfl
    have c21 : wc.cell? ⟨w.heap.size + 1 + 1, 1, none⟩ = some (.int .i64 0) := hY.cell m2 (i := 1) rfl
    have c30 : wc.cell? ⟨w.heap.size + 1 + 1 + 1, 0, none⟩ = some (.int .i64 0) := hY.cell m3 (i := 0) rfl
    have c31 : wc.cell? ⟨w.heap.size + 1 + 1 + 1, 1, none⟩ = some (.int .i64 0) := hY.cell m3 (i := 1) rfl
    have f2 : ∀ i, wc.frozen? ⟨w.heap.size + 1 + 1, i, none⟩ = false := hY.free _ m2
    have f3 : ∀ i, wc.frozen? ⟨w.heap.size + 1 + 1 + 1, i, none⟩ = false := hY.free _ m3
    have bY := hY.below
    clear hY hX hG mm m2 m3 mT lT qT nT zT wT q3
    go_wp2_with fail
    go_region
    all_goals (go_wp2_with fail)
    all_goals (refine bodyPost_ret (v := .tuple #[.agg #[.int .i64 (itvRel 1 c d a b).l1, .int .i64 (itvRel 1 c d a b).h1], .agg #[.int .i64 (itvRel 1 c d a b).l0, .int .i64 (itvRel 1 c d a b).h0], .bool (itvRel 1 c d a b).ok]) (by simp [results, Try.results109, go_sem, cell_set, c20, c21, c30, c31]) rfl ⟨rfl, ?_⟩)
    all_goals (repeat (first | exact bY | refine Below.drew ?_ | refine Below.setCell ?_ (by simp; try omega) _))

theorem nil_ord (w : World) : (Instr.typeAssert .nilIface 189 192 true).run Try.prog w = .ok (.tuple #[.nilIface, .bool false]) w := by kernel_rfl
theorem nil_unord (w : World) : (Instr.typeAssert .nilIface 189 197 true).run Try.prog w = .ok (.tuple #[.nilIface, .bool false]) w := by kernel_rfl
set_option maxHeartbeats 2000000 in
theorem itvNotI_n (rel a b c d : Int) (w : World) (h1 : rel ≠ 1) (h2 : rel ≠ 2) (h3 : rel ≠ 3) (h4 : rel ≠ 4) :
    Calls Try.prog 109 #[.int .i64 rel, .agg #[.int .i64 a, .int .i64 b], .agg #[.int .i64 c, .int .i64 d]] w fun e w' => e = .returned (.tuple #[.agg #[.int .i64 0, .int .i64 0], .agg #[.int .i64 0, .int .i64 0], .bool false]) ∧ Below w.heap.size w w' := by
  have q1 := nil_ord
  have q2 := nil_unord
  go_enter Try.func109, Try.ntmps109
  go_wp2_with (go_at_call 124; refine (standOfI_n _ _ h1 h2 h3 h4).mono ?_; rintro e w' ⟨rfl, rfl⟩)
  refine bodyPost_ret (v := .tuple #[.agg #[.int .i64 0, .int .i64 0], .agg #[.int .i64 0, .int .i64 0], .bool false]) (by simp [results, Try.results109, go_sem]) rfl ⟨rfl, ?_⟩
  repeat (first | exact Below.refl _ _ | refine Below.drew ?_ | refine Below.alloc ?_ (by simp; try omega) _ | refine Below.setCell ?_ (by simp; try omega) _)

theorem itvNotI (rel a b c d : Int) (w : World) :
    Calls Try.prog 109 #[.int .i64 rel, .agg #[.int .i64 a, .int .i64 b], .agg #[.int .i64 c, .int .i64 d]] w fun e w' => e = .returned (.tuple #[.agg #[.int .i64 (itvNot rel a b c d).l0, .int .i64 (itvNot rel a b c d).h0], .agg #[.int .i64 (itvNot rel a b c d).l1, .int .i64 (itvNot rel a b c d).h1], .bool (itvNot rel a b c d).ok]) ∧ Below w.heap.size w w' := by
  by_cases h1 : rel = 1
  · subst h1; exact itvNotI_1 _ _ _ _ _
  by_cases h2 : rel = 2
  · subst h2; exact itvNotI_2 _ _ _ _ _
  by_cases h3 : rel = 3
  · subst h3; exact itvNotI_3 _ _ _ _ _
  by_cases h4 : rel = 4
  · subst h4; exact itvNotI_4 _ _ _ _ _
  have k : itvNot rel a b c d = Two.none := by simp [itvNot, h1, h2, h3, h4]
  rw [k]
  exact itvNotI_n _ _ _ _ _ _ h1 h2 h3 h4
end Go.Proofs.Ytdpkbbbfnmneiaa
