/- Two copies of one program are the same, to the laws. -/
import Derived.Test.YtddcojeghdnhnaaDoorPrgTo2
import Derived.Deep.RegionHeld3
import Derived.Deep.DeepCutAuto
namespace Go.Proofs.YtddcojeghdnhnaaDoor
open Go.ChangeShapes Go.WideShapes Go.ChangeAt Go.RowKit

def E16 (w : World) (g h q : Nat) (x0 x1 x2 x3 x4 x5 x6 x7 : Value) (W : World) : Prop := W.cell? ⟨g, q, none⟩ = some x0 ∧ W.cell? ⟨g, q + 1, none⟩ = some x1 ∧ W.cell? ⟨g, q + 2, none⟩ = some x2 ∧ W.cell? ⟨g, q + 3, none⟩ = some x3 ∧ W.cell? ⟨g, q + 4, none⟩ = some x4 ∧ W.cell? ⟨g, q + 5, none⟩ = some x5 ∧ W.cell? ⟨g, q + 6, none⟩ = some x6 ∧ W.cell? ⟨g, q + 7, none⟩ = some x7 ∧ W.cell? ⟨h, q, none⟩ = some x0 ∧ W.cell? ⟨h, q + 1, none⟩ = some x1 ∧ W.cell? ⟨h, q + 2, none⟩ = some x2 ∧ W.cell? ⟨h, q + 3, none⟩ = some x3 ∧ W.cell? ⟨h, q + 4, none⟩ = some x4 ∧ W.cell? ⟨h, q + 5, none⟩ = some x5 ∧ W.cell? ⟨h, q + 6, none⟩ = some x6 ∧ W.cell? ⟨h, q + 7, none⟩ = some x7 ∧ Below w.heap.size w W
theorem E16.next {w : World} {g h q : Nat} {x0 x1 x2 x3 x4 x5 x6 x7 : Value} {W W' : World} (k : E16 w g h q x0 x1 x2 x3 x4 x5 x6 x7 W) (hg : g < w.heap.size ∧ h < w.heap.size) (hb : Below W.heap.size W W') : E16 w g h q x0 x1 x2 x3 x4 x5 x6 x7 W' := by
  have s := k.2.2.2.2.2.2.2.2.2.2.2.2.2.2.2.2.size
  have p : ∀ o, W'.cell? ⟨g, o, none⟩ = W.cell? ⟨g, o, none⟩ := fun o => hb.cell (p := ⟨g, o, none⟩) (show g < W.heap.size by omega)
  have r : ∀ o, W'.cell? ⟨h, o, none⟩ = W.cell? ⟨h, o, none⟩ := fun o => hb.cell (p := ⟨h, o, none⟩) (show h < W.heap.size by omega)
  obtain ⟨k0, k1, k2, k3, k4, k5, k6, k7, k8, k9, k10, k11, k12, k13, k14, k15, kb⟩ := k
  exact ⟨(p _).trans k0, (p _).trans k1, (p _).trans k2, (p _).trans k3, (p _).trans k4, (p _).trans k5, (p _).trans k6, (p _).trans k7, (r _).trans k8, (r _).trans k9, (r _).trans k10, (r _).trans k11, (r _).trans k12, (r _).trans k13, (r _).trans k14, (r _).trans k15, below_tr kb hb⟩
def E6 (w : World) (g h q : Nat) (x0 x1 x2 y2 : Value) (W : World) : Prop := W.cell? ⟨g, q, none⟩ = some x0 ∧ W.cell? ⟨g, q + 1, none⟩ = some x1 ∧ W.cell? ⟨g, q + 2, none⟩ = some x2 ∧ W.cell? ⟨h, q, none⟩ = some x0 ∧ W.cell? ⟨h, q + 1, none⟩ = some x1 ∧ W.cell? ⟨h, q + 2, none⟩ = some y2 ∧ Below w.heap.size w W
theorem E6.next {w : World} {g h q : Nat} {x0 x1 x2 y2 : Value} {W W' : World} (k : E6 w g h q x0 x1 x2 y2 W) (hg : g < w.heap.size ∧ h < w.heap.size) (hb : Below W.heap.size W W') : E6 w g h q x0 x1 x2 y2 W' := by
  have s := k.2.2.2.2.2.2.size
  have p : ∀ o, W'.cell? ⟨g, o, none⟩ = W.cell? ⟨g, o, none⟩ := fun o => hb.cell (p := ⟨g, o, none⟩) (show g < W.heap.size by omega)
  have r : ∀ o, W'.cell? ⟨h, o, none⟩ = W.cell? ⟨h, o, none⟩ := fun o => hb.cell (p := ⟨h, o, none⟩) (show h < W.heap.size by omega)
  obtain ⟨k0, k1, k2, k3, k4, k5, kb⟩ := k
  exact ⟨(p _).trans k0, (p _).trans k1, (p _).trans k2, (r _).trans k3, (r _).trans k4, (r _).trans k5, below_tr kb hb⟩

end Go.Proofs.YtddcojeghdnhnaaDoor
