/- What of both may stand so, the other two of four: the program's (I). -/
import Derived.Test.YtdpkbbbfnmneiaaItvRelI
import Derived.WalkKit
import Derived.ProofKit
import Derived.OpenShut
import Derived.Below
import Derived.Deep.RegionHeld3
import Derived.Deep.DeepCutAuto
namespace Go.Proofs.Ytdpkbbbfnmneiaa
open Go.ChangeShapes Go.WideShapes Go.ChangeAt Go.RowKit

set_option maxHeartbeats 4000000 in
theorem keepI_3 (a b c d : Int) (w : World) :
    Calls Try.prog 171 #[.agg #[], .agg #[.int .i64 a, .int .i64 b], .agg #[.int .i64 c, .int .i64 d]] w fun e w' => e = .returned (.tuple #[.agg #[.int .i64 (max a c), .int .i64 (min b d)], .agg #[.int .i64 (max a c), .int .i64 (min b d)]]) ∧ Below w.heap.size w w' := by
  go_enter Try.func171, Try.ntmps171
  go_wp2_with fail
  refine (overlapI _ _ _ _ _).mono ?_
  rintro e w1 ⟨rfl, hb⟩
  have b1 := (show Below w.heap.size w (((((w.alloc (.cells #[] 206)).alloc (.cells #[.int .i64 a, .int .i64 b] 75)).alloc (.cells #[.int .i64 c, .int .i64 d] 75)).alloc (.cells #[.int .i64 0, .int .i64 0] 75)).alloc (.cells #[.int .i64 0, .int .i64 0] 75)) from by repeat (first | exact Below.refl _ _ | refine Below.alloc ?_ (by simp; try omega) _)).trans (hb.mono (by simp; omega))
  obtain ⟨hc, hf⟩ := bcellA hb
  have hs := hb.size
  simp at hs
  go_wp2_with fail
  go_region
  all_goals (go_wp2_with fail)
  all_goals (refine bodyPost_ret (v := .tuple #[.agg #[.int .i64 (max a c), .int .i64 (min b d)], .agg #[.int .i64 (max a c), .int .i64 (min b d)]]) (by simp [results, Try.results171, go_sem, cell_set, hc]) rfl ⟨rfl, ?_⟩)
  all_goals (repeat (first | exact b1 | refine Below.drew ?_ | refine Below.alloc ?_ (by first | exact b1.size | (simp; try omega)) _ | refine Below.setCell ?_ (by simp; try omega) _))

theorem held14 (w : World) (o : Obj) (a b c d x y p q : Value) (t : TypeId) : HeldL w [(w.heap.size + 1 + 1 + 1 + 1, [p, q]), (w.heap.size + 1 + 1 + 1, [x, y]), (w.heap.size + 1 + 1, [c, d]), (w.heap.size + 1, [a, b])] (((((w.alloc o).alloc (.cells #[a, b] t)).alloc (.cells #[c, d] t)).alloc (.cells #[x, y] t)).alloc (.cells #[p, q] t)) := by
  have e1 : w.heap.size + 1 = (w.alloc o).heap.size := by simp
  have e2 : w.heap.size + 1 + 1 = ((w.alloc o).alloc (.cells #[a, b] t)).heap.size := by simp
  have e3 : w.heap.size + 1 + 1 + 1 = (((w.alloc o).alloc (.cells #[a, b] t)).alloc (.cells #[c, d] t)).heap.size := by simp
  have e4 : w.heap.size + 1 + 1 + 1 + 1 = ((((w.alloc o).alloc (.cells #[a, b] t)).alloc (.cells #[c, d] t)).alloc (.cells #[x, y] t)).heap.size := by simp
  rw [e4, e3, e2, e1]
  exact HeldL.new (HeldL.new (HeldL.new (HeldL.new ((HeldL.nil w).alloc o))))
def S5 (w : World) (a b c d : Int) (W : World) : Prop :=
  W.cell? ⟨w.heap.size + 1, 0, none⟩ = some (.int .i64 a) ∧ W.cell? ⟨w.heap.size + 1, 1, none⟩ = some (.int .i64 b) ∧ W.cell? ⟨w.heap.size + 1 + 1, 0, none⟩ = some (.int .i64 c) ∧ W.cell? ⟨w.heap.size + 1 + 1, 1, none⟩ = some (.int .i64 d)
theorem S5.of {w : World} {a b c d : Int} {p q x y : Value} {W : World} (h : HeldL w [(w.heap.size + 1 + 1 + 1 + 1, [p, q]), (w.heap.size + 1 + 1 + 1, [x, y]), (w.heap.size + 1 + 1, [.int .i64 c, .int .i64 d]), (w.heap.size + 1, [.int .i64 a, .int .i64 b])] W) : S5 w a b c d W :=
  ⟨h.cell (e := (w.heap.size + 1, [.int .i64 a, .int .i64 b])) (by simp) rfl, h.cell (e := (w.heap.size + 1, [.int .i64 a, .int .i64 b])) (by simp) rfl, h.cell (e := (w.heap.size + 1 + 1, [.int .i64 c, .int .i64 d])) (by simp) rfl, h.cell (e := (w.heap.size + 1 + 1, [.int .i64 c, .int .i64 d])) (by simp) rfl⟩
theorem S5.set {w : World} {a b c d : Int} {W : World} {k i : Nat} {v : Value} (hk : w.heap.size + 1 + 1 < k) (h : S5 w a b c d W) : S5 w a b c d (W.setCell ⟨k, i, none⟩ v) := by
  obtain ⟨h1, h2, h3, h4⟩ := h
  refine ⟨?_, ?_, ?_, ?_⟩ <;> (rw [World.cell?_setCell_other _ _ _ _ (by simp; try omega)]; assumption)

set_option maxRecDepth 10000 in
set_option maxHeartbeats 4000000 in
theorem keepI_4 (a b c d : Int) (w : World) (a1 : -32768 ≤ a) (a2 : a ≤ 32767) (a3 : -32768 ≤ b) (a4 : b ≤ 32767) (a5 : -32768 ≤ c) (a6 : c ≤ 32767) (a7 : -32768 ≤ d) (a8 : d ≤ 32767) :
    Calls Try.prog 174 #[.agg #[], .agg #[.int .i64 a, .int .i64 b], .agg #[.int .i64 c, .int .i64 d]] w fun e w' => e = .returned (.tuple #[.agg #[.int .i64 (woLo a c d), .int .i64 (woHi b c d)], .agg #[.int .i64 (woLo c a b), .int .i64 (woHi d a b)]]) ∧ Below w.heap.size w w' := by
  go_enter Try.func174, Try.ntmps174
  go_wp2_with fail
  have hX := held14 w (.cells #[] 207) (.int .i64 a) (.int .i64 b) (.int .i64 c) (.int .i64 d) (.int .i64 0) (.int .i64 0) (.int .i64 0) (.int .i64 0) 75
  generalize (((((w.alloc (Obj.cells #[] 207)).alloc (Obj.cells #[Value.int IntKind.i64 a, Value.int IntKind.i64 b] 75)).alloc (Obj.cells #[Value.int IntKind.i64 c, Value.int IntKind.i64 d] 75)).alloc (Obj.cells #[Value.int IntKind.i64 0, Value.int IntKind.i64 0] 75)).alloc (Obj.cells #[Value.int IntKind.i64 0, Value.int IntKind.i64 0] 75)) = w0 at hX ⊢
  go_region_held3 (fun W => W.cell? ⟨w.heap.size + 1, 0, none⟩ = some (.int .i64 a) ∧ W.cell? ⟨w.heap.size + 1, 1, none⟩ = some (.int .i64 b) ∧ W.cell? ⟨w.heap.size + 1 + 1, 0, none⟩ = some (.int .i64 c) ∧ W.cell? ⟨w.heap.size + 1 + 1, 1, none⟩ = some (.int .i64 d)) (first | exact S5.of hX.drew | exact S5.of hX | exact S5.set (by omega) (S5.set (by omega) (by assumption))) (first | (go_at_call 176; refine (withoutI _ _ _ _ _ (by assumption) (by assumption) (by assumption) (by assumption)).mono ?_; rintro e w' ⟨rfl, hB⟩; replace hX := HeldL.next hB (by first | exact hX | exact hX.drew); have c30 : w'.cell? ⟨w.heap.size + 1 + 1 + 1, 0, none⟩ = some (.int .i64 0) := hX.cell (e := (w.heap.size + 1 + 1 + 1, [.int .i64 0, .int .i64 0])) (by simp) (i := 0) rfl; have c31 : w'.cell? ⟨w.heap.size + 1 + 1 + 1, 1, none⟩ = some (.int .i64 0) := hX.cell (e := (w.heap.size + 1 + 1 + 1, [.int .i64 0, .int .i64 0])) (by simp) (i := 1) rfl; have c40 : w'.cell? ⟨w.heap.size + 1 + 1 + 1 + 1, 0, none⟩ = some (.int .i64 0) := hX.cell (e := (w.heap.size + 1 + 1 + 1 + 1, [.int .i64 0, .int .i64 0])) (by simp) (i := 0) rfl; have c41 : w'.cell? ⟨w.heap.size + 1 + 1 + 1 + 1, 1, none⟩ = some (.int .i64 0) := hX.cell (e := (w.heap.size + 1 + 1 + 1 + 1, [.int .i64 0, .int .i64 0])) (by simp) (i := 1) rfl; have f3 : ∀ i, w'.frozen? ⟨w.heap.size + 1 + 1 + 1, i, none⟩ = false := hX.free (w.heap.size + 1 + 1 + 1, [.int .i64 0, .int .i64 0]) (by simp); have f4 : ∀ i, w'.frozen? ⟨w.heap.size + 1 + 1 + 1 + 1, i, none⟩ = false := hX.free (w.heap.size + 1 + 1 + 1 + 1, [.int .i64 0, .int .i64 0]) (by simp)))
  all_goals (go_wp2_with fail)
  all_goals (refine bodyPost_ret (v := .tuple #[.agg #[.int .i64 (woLo a c d), .int .i64 (woHi b c d)], .agg #[.int .i64 (woLo c a b), .int .i64 (woHi d a b)]]) (by simp [results, Try.results174, go_sem, cell_set, c30, c31, c40, c41]) rfl ⟨rfl, ?_⟩)
  all_goals (repeat (first | exact hX.below | refine Below.drew ?_ | refine Below.setCell ?_ (by simp; try omega) _))
end Go.Proofs.Ytdpkbbbfnmneiaa
