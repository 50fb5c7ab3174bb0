/- A new block of any number of cells that a region makes and fills (NewL), for region_inv4. No program in it. -/
import Derived.Test.YtiehokibfdaleaaRegNew
import Derived.Test.YtiehokibfdaleaaPrgTo
import Derived.Test.YtiehokibfdaleaaHeld8
namespace Go.Proofs.Ytiehokibfdaleaa
open Go.RowKit

/-- A block that the region makes (operation p, behind N) and fills with vs (operation s). -/
def NewL (N : Nat) (vs : List Value) (p s : Nat) (L : Nat → Bool) (vals : Nat → Value) (W : World) : Prop :=
  N ≤ W.heap.size ∧ (L s = true → L p = true) ∧ (L p = true → ∃ b, vals p = .pointer (some ⟨b, 0, none⟩) ∧ N ≤ b ∧ b < W.heap.size ∧ (∀ i, W.frozen? ⟨b, i, none⟩ = false) ∧ (∀ j, j < vs.length → ∃ u, W.cell? ⟨b, j, none⟩ = some u) ∧ (L s = true → ∀ j v, vs[j]? = some v → W.cell? ⟨b, j, none⟩ = some v))
theorem NewL.start {N : Nat} {vs : List Value} {p s : Nat} {vals : Nat → Value} {W : World} (hN : N ≤ W.heap.size) : NewL N vs p s (fun _ => false) vals W := ⟨hN, (fun h => by cases h), (fun h => by cases h)⟩
theorem NewL.next {N : Nat} {vs : List Value} {p s : Nat} {L : Nat → Bool} {vals : Nat → Value} {W W' : World} (h : NewL N vs p s L vals W) (hb : Below W.heap.size W W') {i : Nat} {v : Value} (h1 : p ≠ i) (h2 : s ≠ i) : NewL N vs p s (upd L i true) (upd vals i v) W' := by
  refine ⟨Nat.le_trans h.1 hb.size, fun e => ?_, fun e => ?_⟩
  · rw [upd_other _ _ h1]; rw [upd_other _ _ h2] at e; exact h.2.1 e
  rw [upd_other _ _ h1] at e
  obtain ⟨b, k1, k2, k3, k4, k5, k7⟩ := h.2.2 e
  refine ⟨b, by rw [upd_other _ _ h1]; exact k1, k2, Nat.lt_of_lt_of_le k3 hb.size, fun i => (hb.frozen (p := ⟨b, i, none⟩) k3).trans (k4 i), fun j hj => ?_, fun e2 j v hv => ?_⟩
  · obtain ⟨u, hu⟩ := k5 j hj
    exact ⟨u, (hb.cell (p := ⟨b, j, none⟩) k3).trans hu⟩
  · rw [upd_other _ _ h2] at e2
    exact (hb.cell (p := ⟨b, j, none⟩) k3).trans (k7 e2 j v hv)
theorem NewL.pure {N : Nat} {vs : List Value} {p s : Nat} {L : Nat → Bool} {vals : Nat → Value} {W : World} (h : NewL N vs p s L vals W) {i : Nat} {v : Value} (h1 : p ≠ i) (h2 : s ≠ i) : NewL N vs p s (upd L i true) (upd vals i v) W := h.next (Below.refl _ _) h1 h2
theorem NewL.made {N : Nat} {vs : List Value} {cs : Array Value} {t : TypeId} {p s : Nat} {L : Nat → Bool} {vals : Nat → Value} {W : World} (h : NewL N vs p s L vals W) (hp : L p = false) (hps : s ≠ p) (hl : vs.length = cs.size) : NewL N vs p s (upd L p true) (upd vals p (.pointer (some ⟨W.heap.size, 0, none⟩))) (W.alloc (.cells cs t)) := by
  refine ⟨Nat.le_trans h.1 (by simp), fun _ => upd_same _ _ _, fun _ => ?_⟩
  refine ⟨W.heap.size, upd_same _ _ _, h.1, by simp, fun i => World.frozen?_alloc_new _ _ _ _, fun j hj => ⟨cs[j]'(by omega), ?_⟩, fun e => ?_⟩
  · unfold World.cell?
    rw [heap_alloc_new]
    simp [show j < cs.size by omega]
  · rw [upd_other _ _ hps] at e
    have := h.2.1 e
    rw [hp] at this
    cases this
theorem NewL.set {N : Nat} {vs : List Value} {p s : Nat} {L : Nat → Bool} {vals : Nat → Value} {W : World} {b : Nat} (h : NewL N vs p s L vals W) (hL : L p = true) (hb : vals p = .pointer (some ⟨b, 0, none⟩)) {v : Value} (hps : p ≠ s) : NewL N vs p s (upd L s true) (upd vals s v) (setAll b 0 vs W) := by
  have sz : W.heap.size ≤ (setAll b 0 vs W).heap.size := (setAll_below (B := 0) (w := W) (Nat.zero_le _) vs 0 W (Below.refl _ _)).size
  refine ⟨Nat.le_trans h.1 sz, fun _ => by rw [upd_other _ _ hps]; exact hL, fun _ => ?_⟩
  obtain ⟨b', k1, k2, k3, k4, k5, _⟩ := h.2.2 hL
  rw [hb] at k1
  injection k1 with k1
  injection k1 with k1
  injection k1 with k1
  subst k1
  have key : ∀ j v, vs[j]? = some v → (setAll b 0 vs W).cell? ⟨b, j, none⟩ = some v := fun j v hv => by
    have := setAll_at vs 0 W j v (fun i hi => by rw [Nat.zero_add]; obtain ⟨u, hu⟩ := k5 i hi; rw [hu]; rfl) hv
    rwa [Nat.zero_add] at this
  exact ⟨b, by rw [upd_other _ _ hps]; exact hb, k2, Nat.lt_of_lt_of_le k3 sz, fun i => (setAll_frozen _ _ _ _).trans (k4 i), fun j hj => ⟨vs[j], key j _ (List.getElem?_eq_getElem hj)⟩, fun _ => key⟩
theorem HeldL.setAll {w W : World} {Lb : List (Nat × List Value)} {N b : Nat} (hN : ∀ e ∈ Lb, e.1 < N) (hw : w.heap.size ≤ N) (hb : N ≤ b) : ∀ (vs : List Value) (o : Nat) {W : World}, HeldL w Lb W → HeldL w Lb (setAll b o vs W)
  | [], _, _, h => h
  | _ :: vs, o, _, h => HeldL.setAll (W := W) hN hw hb vs (o + 1) (HeldL.setCell _ _ (by dsimp only; omega) (fun e he => by have := hN e he; dsimp only; omega) h)
theorem HeldL.withNewL {w W : World} {Lb : List (Nat × List Value)} {b : Nat} {vs : List Value} (h : HeldL w Lb W) (hb : w.heap.size ≤ b) (h1 : b < W.heap.size) (h2 : ∀ i, W.frozen? ⟨b, i, none⟩ = false) (h3 : ∀ j v, vs[j]? = some v → W.cell? ⟨b, j, none⟩ = some v) : HeldL w ((b, vs) :: Lb) W := by
  refine ⟨h.below, fun e he => ?_, fun e he i => ?_⟩
  · rcases List.mem_cons.1 he with rfl | he
    · exact ⟨hb, h1, h3⟩
    · exact h.cells e he
  · rcases List.mem_cons.1 he with rfl | he
    · exact h2 i
    · exact h.free e he i
end Go.Proofs.Ytiehokibfdaleaa
