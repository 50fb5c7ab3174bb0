/- What an exact law holds: its boxes, and that nothing behind a certain world has turned. No program in it. -/
import Derived.Test.YtiehokibfdaleaaRegNewL
import Derived.Test.YtiehokibfdaleaaHeld8
import Derived.Test.YtiehokibfdaleaaDrawIs
namespace Go.Proofs.Ytiehokibfdaleaa
open Go.ChangeShapes Go.WideShapes Go.ChangeAt Go.RowKit

def TX (_ : Nat) (W W' : World) : Prop := Below W.heap.size W W'
/-- What is held, and that nothing older than V has turned. -/
def HX (w V : World) (L : List (Nat × List Value)) (W : World) : Prop := HeldL w L W ∧ Below V.heap.size V W
theorem HX.next {w V : World} {L : List (Nat × List Value)} {W W' : World} (hb : Below W.heap.size W W') (h : HX w V L W) : HX w V L W' := ⟨h.1.next hb, below_tr h.2 hb⟩
theorem HX.cell {w V : World} {L : List (Nat × List Value)} {W : World} (h : HX w V L W) {e : Nat × List Value} (he : e ∈ L) {i : Nat} {v : Value} (hv : e.2[i]? = some v) : W.cell? ⟨e.1, i, none⟩ = some v := h.1.cell he hv
theorem HX.below {w V : World} {L : List (Nat × List Value)} {W : World} (h : HX w V L W) : Below w.heap.size w W := h.1.below
theorem HX.beh {w V : World} {L : List (Nat × List Value)} {W : World} (h : HX w V L W) : Below V.heap.size V W := h.2
theorem HX.drew {w V : World} {L : List (Nat × List Value)} {W : World} (h : HX w V L W) : HX w V L W.drew := h.next (Below.refl _ W).drew
theorem HX.alloc {w V : World} {L : List (Nat × List Value)} {W : World} (o : Obj) (h : HX w V L W) : HX w V L (W.alloc o) := h.next ((Below.refl _ _).alloc (Nat.le_refl _) o)
theorem HX.setAll {w V : World} {Lb : List (Nat × List Value)} {N b : Nat} (hN : ∀ e ∈ Lb, e.1 < N) (hw : w.heap.size ≤ N) (hV : V.heap.size ≤ N) (hb : N ≤ b) (vs : List Value) (o : Nat) {W : World} (h : HX w V Lb W) : HX w V Lb (setAll b o vs W) :=
  ⟨HeldL.setAll (W := W) hN hw hb vs o h.1, setAll_below (Nat.le_trans hV hb) vs o W h.2⟩
/-- A copy that a region makes (operation j) and a call of it uses (operation k): it is there between the two. -/
def Cp (j k : Nat) (V : Value → World → Prop) (L : Nat → Bool) (vals : Nat → Value) (W : World) : Prop := L j = true → L k = false → V (vals j) W
theorem Cp.start {j k : Nat} {V : Value → World → Prop} {vals : Nat → Value} {W : World} : Cp j k V (fun _ => false) vals W := fun e => by cases e
theorem Cp.keep {j k : Nat} {V : Value → World → Prop} {L : Nat → Bool} {vals : Nat → Value} {W W' : World} (h : Cp j k V L vals W) (hV : ∀ v, V v W → V v W') {i : Nat} {v : Value} (h1 : j ≠ i) (h2 : k ≠ i) : Cp j k V (upd L i true) (upd vals i v) W' := by
  intro e1 e2
  rw [upd_other _ _ h1] at e1 ⊢
  rw [upd_other _ _ h2] at e2
  exact hV _ (h e1 e2)
theorem Cp.put {j k : Nat} {V : Value → World → Prop} {L : Nat → Bool} {vals : Nat → Value} {W : World} {v : Value} (h : V v W) : Cp j k V (upd L j true) (upd vals j v) W := by
  intro _ _
  rw [upd_same]; exact h
theorem Cp.done {j k : Nat} {V : Value → World → Prop} {L : Nat → Bool} {vals : Nat → Value} {W : World} {v : Value} : Cp j k V (upd L k true) (upd vals k v) W := by
  intro _ e
  rw [upd_same] at e; cases e
theorem Cp.past {j k : Nat} {V : Value → World → Prop} {L : Nat → Bool} {vals : Nat → Value} {W : World} {i : Nat} {v : Value} (hk : L k = true) (h2 : k ≠ i) : Cp j k V (upd L i true) (upd vals i v) W := by
  intro _ e
  rw [upd_other _ _ h2, hk] at e; cases e
end Go.Proofs.Ytiehokibfdaleaa
