/- More of what the laws hold: a block that a region makes, blocks that are turned. -/
import Derived.Test.YtceanngbcolbaaaLawL
import Derived.Test.YtceanngbcolbaaaRegNew
import Derived.Deep.DeepCutAuto
import Derived.Deep.CutBlock
namespace Go.Proofs.Ytceanngbcolbaaa
open Go.ChangeShapes Go.WideShapes Go.ChangeAt Go.RowKit

theorem HL.alloc {w W : World} {L : List (Nat × List Value)} {g : Nat} {zs : List Int} (o : Obj) (h : HL w L g zs W) : HL w L g zs (W.alloc o) := h.next ((Below.refl _ _).alloc (Nat.le_refl _) o)
theorem HL.sub {w W : World} {L L' : List (Nat × List Value)} {g : Nat} {zs : List Int} (hs : ∀ e ∈ L', e ∈ L) (h : HL w L g zs W) : HL w L' g zs W := ⟨h.1.sub hs, h.2⟩
theorem HL.setNew {w W : World} {Lb : List (Nat × List Value)} {g : Nat} {zs : List Int} {N b : Nat} {x y : Value} (h : HL w Lb g zs W) (hN : ∀ e ∈ Lb, e.1 < N) (hg : g < N) (hw : w.heap.size ≤ N) (hb : N ≤ b) : HL w Lb g zs ((W.setCell ⟨b, 0, none⟩ x).setCell ⟨b, 1, none⟩ y) := by
  refine ⟨h.1.setNew hN hw hb, by simpa [World.setCell] using h.2.1, fun j hj => ?_⟩
  rw [World.cell?_setCell_other _ _ _ _ (by intro e; injection e with e; omega), World.cell?_setCell_other _ _ _ _ (by intro e; injection e with e; omega)]
  exact h.2.2 j hj
theorem HL.withNew {w W : World} {Lb : List (Nat × List Value)} {g : Nat} {zs : List Int} {b : Nat} {x y : Value} (h : HL w Lb g zs W) (hb : w.heap.size ≤ b) (h1 : b < W.heap.size) (h2 : ∀ i, W.frozen? ⟨b, i, none⟩ = false) (h3 : W.cell? ⟨b, 0, none⟩ = some x) (h4 : W.cell? ⟨b, 1, none⟩ = some y) : HL w ((b, [x, y]) :: Lb) g zs W := ⟨h.1.withNew hb h1 h2 h3 h4, h.2⟩
/-- Two blocks, one behind the other, turned. -/
theorem HL.put2 {w W : World} {L : List (Nat × List Value)} {g : Nat} {zs : List Int} {B : Nat} {a b c d a' b' c' d' : Value} (hB : w.heap.size ≤ B) (hg : g < B) (hne : ∀ e ∈ L, e.1 ≠ B ∧ e.1 ≠ B + 1) (h : HL w ((B + 1, [a, b]) :: (B, [c, d]) :: L) g zs W) : HL w ((B + 1, [a', b']) :: (B, [c', d']) :: L) g zs ((((W.setCell ⟨B, 0, none⟩ c').setCell ⟨B, 1, none⟩ d').setCell ⟨B + 1, 0, none⟩ a').setCell ⟨B + 1, 1, none⟩ b') := by
  have h1 : HeldL w ((B, [c, d]) :: (B + 1, [a, b]) :: L) W := h.1.sub (fun e he => by simp at he ⊢; rcases he with he | he | he <;> simp [he])
  have n1 : ∀ e ∈ (B + 1, [a, b]) :: L, e.1 ≠ B := by
    intro e he
    rcases List.mem_cons.1 he with rfl | he
    · dsimp only; omega
    · exact (hne e he).1
  have n2 : ∀ e ∈ (B, [c', d']) :: L, e.1 ≠ B + 1 := by
    intro e he
    rcases List.mem_cons.1 he with rfl | he
    · dsimp only; omega
    · exact (hne e he).2
  have h2 := HeldL.put (x := c') (y := d') hB n1 h1
  have h3 : HeldL w ((B + 1, [a, b]) :: (B, [c', d']) :: L) ((W.setCell ⟨B, 0, none⟩ c').setCell ⟨B, 1, none⟩ d') := h2.sub (fun e he => by simp at he ⊢; rcases he with he | he | he <;> simp [he])
  have h4 := HeldL.put (x := a') (y := b') (by omega) n2 h3
  refine ⟨h4, by simpa [World.setCell] using h.2.1, fun j hj => ?_⟩
  rw [World.cell?_setCell_other _ _ _ _ (by intro e; injection e with e; omega), World.cell?_setCell_other _ _ _ _ (by intro e; injection e with e; omega), World.cell?_setCell_other _ _ _ _ (by intro e; injection e with e; omega), World.cell?_setCell_other _ _ _ _ (by intro e; injection e with e; omega)]
  exact h.2.2 j hj
end Go.Proofs.Ytceanngbcolbaaa
