/- Blocks of two noughts that are held: what a store into one asks, one and two blocks further too; and that no new block is one of them. No program in it. -/
import Derived.Test.YtdpkbbbfnmneiaaHeld
namespace Go.Proofs.Ytdpkbbbfnmneiaa
open Go.RowKit

theorem HeldL.new2 {w W : World} {L : List (Nat × List Value)} {x y u v : Value} {t s : TypeId} (h : HeldL w L W) : HeldL w ((W.heap.size + 1, [u, v]) :: (W.heap.size, [x, y]) :: L) ((W.alloc (.cells #[x, y] t)).alloc (.cells #[u, v] s)) := by
  have e : W.heap.size + 1 = (W.alloc (.cells #[x, y] t)).heap.size := by simp
  rw [e]
  exact HeldL.new (HeldL.new h)
theorem HeldL.zf {w W : World} {g : Nat} {l : List (Nat × List Value)} (h : HeldL w l W) (m : (g, [Value.int .i64 0, Value.int .i64 0]) ∈ l) : (W.cell? ⟨g, 0, none⟩ = some (.int .i64 0) ∧ W.cell? ⟨g, 1, none⟩ = some (.int .i64 0) ∧ ∀ i, W.frozen? ⟨g, i, none⟩ = false) ∧
    (∀ o, (W.alloc o).cell? ⟨g, 0, none⟩ = some (.int .i64 0) ∧ (W.alloc o).cell? ⟨g, 1, none⟩ = some (.int .i64 0) ∧ ∀ i, (W.alloc o).frozen? ⟨g, i, none⟩ = false) ∧
    (∀ o o', ((W.alloc o).alloc o').cell? ⟨g, 0, none⟩ = some (.int .i64 0) ∧ ((W.alloc o).alloc o').cell? ⟨g, 1, none⟩ = some (.int .i64 0) ∧ ∀ i, ((W.alloc o).alloc o').frozen? ⟨g, i, none⟩ = false) ∧
    (¬ g = W.heap.size) ∧ (¬ W.heap.size = g) ∧ (¬ g = W.heap.size + 1) ∧ (¬ W.heap.size + 1 = g) := by
  have s := h.size m
  simp only [] at s
  exact ⟨⟨h.cell m (i := 0) rfl, h.cell m (i := 1) rfl, h.free _ m⟩, fun o => ⟨(h.alloc o).cell m (i := 0) rfl, (h.alloc o).cell m (i := 1) rfl, (h.alloc o).free _ m⟩, fun o o' => ⟨((h.alloc o).alloc o').cell m (i := 0) rfl, ((h.alloc o).alloc o').cell m (i := 1) rfl, ((h.alloc o).alloc o').free _ m⟩, by omega, by omega, by omega, by omega⟩
theorem fin2 {W : World} {g0 g1 : Nat} {x y z t u v : Value} {P : World → Prop} (hne : g0 ≠ g1) (k0 : W.cell? ⟨g0, 0, none⟩ = some x) (k1 : W.cell? ⟨g0, 1, none⟩ = some y) (k2 : W.cell? ⟨g1, 0, none⟩ = some u) (k3 : W.cell? ⟨g1, 1, none⟩ = some v) (hP : P ((W.setCell ⟨g1, 0, none⟩ z).setCell ⟨g1, 1, none⟩ t)) :
    ((W.setCell ⟨g1, 0, none⟩ z).setCell ⟨g1, 1, none⟩ t).cell? ⟨g0, 0, none⟩ = some x ∧ ((W.setCell ⟨g1, 0, none⟩ z).setCell ⟨g1, 1, none⟩ t).cell? ⟨g0, 1, none⟩ = some y ∧ ((W.setCell ⟨g1, 0, none⟩ z).setCell ⟨g1, 1, none⟩ t).cell? ⟨g1, 0, none⟩ = some z ∧ ((W.setCell ⟨g1, 0, none⟩ z).setCell ⟨g1, 1, none⟩ t).cell? ⟨g1, 1, none⟩ = some t ∧ P ((W.setCell ⟨g1, 0, none⟩ z).setCell ⟨g1, 1, none⟩ t) := by
  obtain ⟨e0, e1⟩ := own2 k2 k3
  have n : ∀ i j, (⟨g0, i, none⟩ : Addr) ≠ ⟨g1, j, none⟩ := fun i j h => hne (by injection h)
  have o : ∀ i, ((W.setCell ⟨g1, 0, none⟩ z).setCell ⟨g1, 1, none⟩ t).cell? ⟨g0, i, none⟩ = W.cell? ⟨g0, i, none⟩ := fun i => by
    rw [World.cell?_setCell_other _ _ _ _ (by first | exact n _ _ | exact (n _ _).symm), World.cell?_setCell_other _ _ _ _ (by first | exact n _ _ | exact (n _ _).symm)]
  exact ⟨(o 0).trans k0, (o 1).trans k1, by rw [World.cell?_setCell_other _ _ _ _ (by simp)]; exact e0 z, e1 z t, hP⟩
theorem fin4 {W : World} {g0 g1 : Nat} {x y z t p q u v : Value} {P : World → Prop} (hne : g0 ≠ g1) (k0 : W.cell? ⟨g0, 0, none⟩ = some p) (k1 : W.cell? ⟨g0, 1, none⟩ = some q) (k2 : W.cell? ⟨g1, 0, none⟩ = some u) (k3 : W.cell? ⟨g1, 1, none⟩ = some v) (hP : P ((((W.setCell ⟨g0, 0, none⟩ x).setCell ⟨g0, 1, none⟩ y).setCell ⟨g1, 0, none⟩ z).setCell ⟨g1, 1, none⟩ t)) :
    ((((W.setCell ⟨g0, 0, none⟩ x).setCell ⟨g0, 1, none⟩ y).setCell ⟨g1, 0, none⟩ z).setCell ⟨g1, 1, none⟩ t).cell? ⟨g0, 0, none⟩ = some x ∧ ((((W.setCell ⟨g0, 0, none⟩ x).setCell ⟨g0, 1, none⟩ y).setCell ⟨g1, 0, none⟩ z).setCell ⟨g1, 1, none⟩ t).cell? ⟨g0, 1, none⟩ = some y ∧ ((((W.setCell ⟨g0, 0, none⟩ x).setCell ⟨g0, 1, none⟩ y).setCell ⟨g1, 0, none⟩ z).setCell ⟨g1, 1, none⟩ t).cell? ⟨g1, 0, none⟩ = some z ∧ ((((W.setCell ⟨g0, 0, none⟩ x).setCell ⟨g0, 1, none⟩ y).setCell ⟨g1, 0, none⟩ z).setCell ⟨g1, 1, none⟩ t).cell? ⟨g1, 1, none⟩ = some t ∧ P ((((W.setCell ⟨g0, 0, none⟩ x).setCell ⟨g0, 1, none⟩ y).setCell ⟨g1, 0, none⟩ z).setCell ⟨g1, 1, none⟩ t) := by
  obtain ⟨e0, e1⟩ := own2 k0 k1
  have n : ∀ i j, (⟨g1, i, none⟩ : Addr) ≠ ⟨g0, j, none⟩ := fun i j h => hne (by injection h with h; exact h.symm)
  have o : ∀ i, ((W.setCell ⟨g0, 0, none⟩ x).setCell ⟨g0, 1, none⟩ y).cell? ⟨g1, i, none⟩ = W.cell? ⟨g1, i, none⟩ := fun i => by
    rw [World.cell?_setCell_other _ _ _ _ (by first | exact n _ _ | exact (n _ _).symm), World.cell?_setCell_other _ _ _ _ (by first | exact n _ _ | exact (n _ _).symm)]
  exact fin2 hne (by rw [World.cell?_setCell_other _ _ _ _ (by simp)]; exact e0 x) (e1 x y) ((o 0).trans k2) ((o 1).trans k3) hP
end Go.Proofs.Ytdpkbbbfnmneiaa
