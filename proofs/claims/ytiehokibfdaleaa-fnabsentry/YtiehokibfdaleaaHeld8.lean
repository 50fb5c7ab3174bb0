/- Blocks of eight cells that a call holds on to while callees make memory of their own. No program in it. -/
import Derived.Test.YtiehokibfdaleaaHeld
namespace Go.Proofs.Ytiehokibfdaleaa
open Go.RowKit

/-- One block more, of any number of cells: the one just made. -/
theorem HeldL.newL {w W : World} {L : List (Nat × List Value)} {vs : List Value} {t : TypeId} (h : HeldL w L W) : HeldL w ((W.heap.size, vs) :: L) (W.alloc (.cells vs.toArray t)) :=
  ⟨(h.alloc _).below, fun e he => by
    rcases List.mem_cons.1 he with rfl | he
    · refine ⟨h.below.size, by simp, fun i v hv => ?_⟩
      unfold World.cell?
      rw [heap_alloc_new]
      simpa using hv
    · exact (h.alloc _).cells e he, fun e he i => by
    rcases List.mem_cons.1 he with rfl | he
    · exact World.frozen?_alloc_new _ _ _ _
    · exact (h.alloc _).free e he i⟩
def K8 (w : World) (L : List (Nat × List Value)) (B : Nat) (x0 x1 x2 x3 x4 x5 x6 x7 : Value) (W : World) : Prop :=
  W.cell? ⟨B, 0, none⟩ = some x0 ∧ W.cell? ⟨B, 1, none⟩ = some x1 ∧ W.cell? ⟨B, 2, none⟩ = some x2 ∧ W.cell? ⟨B, 3, none⟩ = some x3 ∧ W.cell? ⟨B, 4, none⟩ = some x4 ∧ W.cell? ⟨B, 5, none⟩ = some x5 ∧ W.cell? ⟨B, 6, none⟩ = some x6 ∧ W.cell? ⟨B, 7, none⟩ = some x7 ∧ HeldL w L W
theorem K8.of {w : World} {L : List (Nat × List Value)} {B : Nat} {x0 x1 x2 x3 x4 x5 x6 x7 : Value} (hm : (B, [x0, x1, x2, x3, x4, x5, x6, x7]) ∈ L) {W : World} (h : HeldL w L W) : K8 w L B x0 x1 x2 x3 x4 x5 x6 x7 W :=
  ⟨h.cell hm (i := 0) rfl, h.cell hm (i := 1) rfl, h.cell hm (i := 2) rfl, h.cell hm (i := 3) rfl, h.cell hm (i := 4) rfl, h.cell hm (i := 5) rfl, h.cell hm (i := 6) rfl, h.cell hm (i := 7) rfl, h⟩
theorem K8.held {w : World} {L : List (Nat × List Value)} {B : Nat} {x0 x1 x2 x3 x4 x5 x6 x7 : Value} {W : World} (h : K8 w L B x0 x1 x2 x3 x4 x5 x6 x7 W) : HeldL w L W := h.2.2.2.2.2.2.2.2
def K16 (w : World) (L : List (Nat × List Value)) (B C : Nat) (x0 x1 x2 x3 x4 x5 x6 x7 y0 y1 y2 y3 y4 y5 y6 y7 : Value) (W : World) : Prop :=
  W.cell? ⟨B, 0, none⟩ = some x0 ∧ W.cell? ⟨B, 1, none⟩ = some x1 ∧ W.cell? ⟨B, 2, none⟩ = some x2 ∧ W.cell? ⟨B, 3, none⟩ = some x3 ∧ W.cell? ⟨B, 4, none⟩ = some x4 ∧ W.cell? ⟨B, 5, none⟩ = some x5 ∧ W.cell? ⟨B, 6, none⟩ = some x6 ∧ W.cell? ⟨B, 7, none⟩ = some x7 ∧ W.cell? ⟨C, 0, none⟩ = some y0 ∧ W.cell? ⟨C, 1, none⟩ = some y1 ∧ W.cell? ⟨C, 2, none⟩ = some y2 ∧ W.cell? ⟨C, 3, none⟩ = some y3 ∧ W.cell? ⟨C, 4, none⟩ = some y4 ∧ W.cell? ⟨C, 5, none⟩ = some y5 ∧ W.cell? ⟨C, 6, none⟩ = some y6 ∧ W.cell? ⟨C, 7, none⟩ = some y7 ∧ HeldL w L W
theorem K16.of {w : World} {L : List (Nat × List Value)} {B C : Nat} {x0 x1 x2 x3 x4 x5 x6 x7 y0 y1 y2 y3 y4 y5 y6 y7 : Value} (hm : (B, [x0, x1, x2, x3, x4, x5, x6, x7]) ∈ L ∧ (C, [y0, y1, y2, y3, y4, y5, y6, y7]) ∈ L) {W : World} (h : HeldL w L W) : K16 w L B C x0 x1 x2 x3 x4 x5 x6 x7 y0 y1 y2 y3 y4 y5 y6 y7 W :=
  ⟨h.cell hm.1 (i := 0) rfl, h.cell hm.1 (i := 1) rfl, h.cell hm.1 (i := 2) rfl, h.cell hm.1 (i := 3) rfl, h.cell hm.1 (i := 4) rfl, h.cell hm.1 (i := 5) rfl, h.cell hm.1 (i := 6) rfl, h.cell hm.1 (i := 7) rfl, h.cell hm.2 (i := 0) rfl, h.cell hm.2 (i := 1) rfl, h.cell hm.2 (i := 2) rfl, h.cell hm.2 (i := 3) rfl, h.cell hm.2 (i := 4) rfl, h.cell hm.2 (i := 5) rfl, h.cell hm.2 (i := 6) rfl, h.cell hm.2 (i := 7) rfl, h⟩
theorem K16.held {w : World} {L : List (Nat × List Value)} {B C : Nat} {x0 x1 x2 x3 x4 x5 x6 x7 y0 y1 y2 y3 y4 y5 y6 y7 : Value} {W : World} (h : K16 w L B C x0 x1 x2 x3 x4 x5 x6 x7 y0 y1 y2 y3 y4 y5 y6 y7 W) : HeldL w L W := h.2.2.2.2.2.2.2.2.2.2.2.2.2.2.2.2
end Go.Proofs.Ytiehokibfdaleaa
