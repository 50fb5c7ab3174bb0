/- Small blocks that a region makes, and one that it writes: what an invariant says of them. No program in it. -/
import Derived.Test.YtdpkbbbfnmneiaaExLaw
namespace Go.Proofs.Ytdpkbbbfnmneiaa
open Go.ChangeShapes Go.WideShapes Go.ChangeAt Go.RowKit

theorem some_set {W : World} {p q : Addr} {v : Value} (h : (W.cell? q).isSome = true) : ((W.setCell p v).cell? q).isSome = true := by
  by_cases hpq : q = p
  · subst hpq
    rw [cell_set h]; rfl
  · rw [World.cell?_setCell_other _ _ _ _ (fun e => hpq (by rw [e]))]; exact h
/-- Operation p makes a block of two cells behind N. -/
def Mk2 (N p : Nat) (L : Nat → Bool) (vals : Nat → Value) (W : World) : Prop :=
  N ≤ W.heap.size ∧ (L p = true → ∃ b, vals p = .pointer (some ⟨b, 0, none⟩) ∧ N ≤ b ∧ (∀ i, W.frozen? ⟨b, i, none⟩ = false) ∧ (W.cell? ⟨b, 0, none⟩).isSome = true ∧ (W.cell? ⟨b, 1, none⟩).isSome = true ∧ b < W.heap.size)
theorem Mk2.start {N p : Nat} {vals : Nat → Value} {W : World} (h : N ≤ W.heap.size) : Mk2 N p (fun _ => false) vals W := ⟨h, (fun e => by cases e)⟩
theorem Mk2.next {N p : Nat} {L : Nat → Bool} {vals : Nat → Value} {W W' : World} (h : Mk2 N p L vals W) (hb : Below W.heap.size W W') {i : Nat} {v : Value} (hi : p ≠ i) : Mk2 N p (upd L i true) (upd vals i v) W' := by
  refine ⟨Nat.le_trans h.1 hb.size, fun e => ?_⟩
  rw [upd_other _ _ hi] at e
  obtain ⟨b, k1, k2, k3, k4, k5, k6⟩ := h.2 e
  exact ⟨b, by rw [upd_other _ _ hi]; exact k1, k2, fun i => (hb.frozen (p := ⟨b, i, none⟩) k6).trans (k3 i), by rw [hb.cell (p := ⟨b, 0, none⟩) k6]; exact k4, by rw [hb.cell (p := ⟨b, 1, none⟩) k6]; exact k5, Nat.lt_of_lt_of_le k6 hb.size⟩
theorem Mk2.made {N p : Nat} {L : Nat → Bool} {vals : Nat → Value} {W : World} {u v : Value} {t : TypeId} (h : Mk2 N p L vals W) (_ : L p = false) : Mk2 N p (upd L p true) (upd vals p (.pointer (some ⟨W.heap.size, 0, none⟩))) (W.alloc (.cells #[u, v] t)) := by
  refine ⟨Nat.le_trans h.1 (by simp), fun _ => ⟨W.heap.size, upd_same _ _ _, h.1, fun i => World.frozen?_alloc_new _ _ _ _, by simp [go_sem], by simp [go_sem], by simp⟩⟩
theorem Mk2.store {N p : Nat} {L : Nat → Bool} {vals : Nat → Value} {W : World} {a0 a1 : Addr} {x y : Value} (h : Mk2 N p L vals W) {i : Nat} {v : Value} (hi : p ≠ i) : Mk2 N p (upd L i true) (upd vals i v) ((W.setCell a0 x).setCell a1 y) := by
  refine ⟨Nat.le_trans h.1 (by simp [World.setCell]), fun e => ?_⟩
  rw [upd_other _ _ hi] at e
  obtain ⟨b, k1, k2, k3, k4, k5, k6⟩ := h.2 e
  exact ⟨b, by rw [upd_other _ _ hi]; exact k1, k2, fun i => by rw [World.frozen?_setCell, World.frozen?_setCell]; exact k3 i, some_set (some_set k4), some_set (some_set k5), by simpa [World.setCell] using k6⟩
/-- Block R, of two cells, is written by operation j. -/
def ResC (j R : Nat) (x y : Value) (L : Nat → Bool) (W : World) : Prop :=
  (∀ i, W.frozen? ⟨R, i, none⟩ = false) ∧ R < W.heap.size ∧ (W.cell? ⟨R, 0, none⟩).isSome = true ∧ (W.cell? ⟨R, 1, none⟩).isSome = true ∧ (L j = true → W.cell? ⟨R, 0, none⟩ = some x ∧ W.cell? ⟨R, 1, none⟩ = some y)
theorem ResC.next {j R : Nat} {x y : Value} {L : Nat → Bool} {W W' : World} (h : ResC j R x y L W) (hb : Below W.heap.size W W') {i : Nat} (hi : j ≠ i) : ResC j R x y (upd L i true) W' := by
  obtain ⟨h1, h2, h3, h4, h5⟩ := h
  have k : ∀ o, W'.cell? ⟨R, o, none⟩ = W.cell? ⟨R, o, none⟩ := fun o => hb.cell (p := ⟨R, o, none⟩) h2
  refine ⟨fun i => (hb.frozen (p := ⟨R, i, none⟩) h2).trans (h1 i), Nat.lt_of_lt_of_le h2 hb.size, by rw [k]; exact h3, by rw [k]; exact h4, fun e => ?_⟩
  rw [upd_other _ _ hi] at e
  rw [k, k]; exact h5 e
theorem ResC.keep {j R : Nat} {x y : Value} {L : Nat → Bool} {W : World} (h : ResC j R x y L W) {i : Nat} (hi : j ≠ i) : ResC j R x y (upd L i true) W := h.next (Below.refl _ _) hi
theorem ResC.done {j R : Nat} {x y : Value} {L : Nat → Bool} {W : World} (h : ResC j R x y L W) : ResC j R x y (upd L j true) ((W.setCell ⟨R, 0, none⟩ x).setCell ⟨R, 1, none⟩ y) := by
  obtain ⟨h1, h2, h3, h4, _⟩ := h
  obtain ⟨u, hu⟩ := Option.isSome_iff_exists.1 h3
  obtain ⟨v, hv⟩ := Option.isSome_iff_exists.1 h4
  obtain ⟨e0, e1⟩ := own2 hu hv
  have c0 : ((W.setCell ⟨R, 0, none⟩ x).setCell ⟨R, 1, none⟩ y).cell? ⟨R, 0, none⟩ = some x := by rw [World.cell?_setCell_other _ _ _ _ (by simp)]; exact e0 _
  exact ⟨fun i => by rw [World.frozen?_setCell, World.frozen?_setCell]; exact h1 i, by simpa [World.setCell] using h2, by rw [c0]; rfl, by rw [e1]; rfl, fun _ => ⟨c0, e1 _ _⟩⟩
theorem ResC.start {j R : Nat} {x y u v : Value} {W : World} (hf : ∀ i, W.frozen? ⟨R, i, none⟩ = false) (hl : R < W.heap.size) (h0 : W.cell? ⟨R, 0, none⟩ = some u) (h1 : W.cell? ⟨R, 1, none⟩ = some v) : ResC j R x y (fun _ => false) W := ⟨hf, hl, by rw [h0]; rfl, by rw [h1]; rfl, (fun e => by cases e)⟩
end Go.Proofs.Ytdpkbbbfnmneiaa
