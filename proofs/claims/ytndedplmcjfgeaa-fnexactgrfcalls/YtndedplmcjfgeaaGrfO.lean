/- Lists of ints of a call's own: what lies there, handed on. -/
import Derived.Test.YtndedplmcjfgeaaOwn
import Derived.Test.YtndedplmcjfgeaaNextS
namespace Go.Proofs.Ytndedplmcjfgeaa
open Go.ChangeShapes Go.WideShapes Go.ChangeAt Go.RowKit

theorem infoIntO : (Try.prog.info? 3).map (fun i => (i.zero, i.size, i.bytes)) = some (some (.int .i64 0), 1, 8) := by kernel_rfl
theorem one_cells {W : World} {g : Nat} {x : Value} (h : W.cell? ⟨g, 0, none⟩ = some x) : ∀ j u, ([x] : List Value)[j]? = some u → W.cell? ((⟨g, 0, none⟩ : Addr).add j) = some u := by
  intro j u hj
  cases j with
  | zero =>
    simp at hj
    subst hj
    simpa [Addr.add] using h
  | succ j => simp at hj
theorem Owns.built (W : World) (e : TypeId) : Owns W.heap.size e (.slice (some ⟨W.heap.size, 0, none⟩) 0 0) [] (W.alloc (.cells #[] e)) :=
  ⟨rfl, .inr ⟨W.heap.size, 0, #[], rfl, Nat.le_refl _, by show (W.heap.push (.cells #[] e))[W.heap.size]? = some _; simp, Nat.le_refl _, by simp [maxLen], rfl, rfl⟩⟩
theorem Owns.made {B : Nat} {e : TypeId} {v : Value} {zs : List Int} {W : World} (h : Owns B e v zs W) : Made B v zs W := by
  have h0 := h
  rcases h.2 with ⟨rfl, hl⟩ | ⟨g, cap, cur, rfl, hb, hg, h2, h3, _⟩
  · have : zs = [] := List.eq_nil_of_length_eq_zero hl
    subst this
    exact Made.nil _ _ _ _
  · refine ⟨_, cap, g, rfl, ⟨fun _ => rfl, fun _ => ⟨hb, (World.ownsRow.lt h0 g rfl).2⟩, fun j hj => ?_, fun _ j => by simp [World.frozen?, hg]⟩⟩
    rw [World.ownsRow.cellAt h0 j (by omega)]
    simp [hj]
theorem Owns.next {B : Nat} {e : TypeId} {v : Value} {zs : List Int} {W W' : World} (h : Owns B e v zs W) (hb : Below W.heap.size W W') : Owns B e v zs W' := by
  refine ⟨h.1, ?_⟩
  rcases h.2 with h2 | ⟨b, cap, cur, h1, h2, h3, h4⟩
  · exact .inl h2
  · exact .inr ⟨b, cap, cur, h1, h2, (hb.block b (Array.getElem?_eq_some_iff.1 h3).1).trans h3, h4⟩
/-- Behind an append what lies below the list's own blocks is as it was. -/
theorem Owns.grow {B : Nat} {e : TypeId} {v : Value} {zs : List Int} {W W' : World} (h : Owns B e v zs W) (hB : B ≤ W.heap.size) (hg : W.grownBy W' v.ownBlock) : Below B W W' := Owns.grown (Nat.le_refl _) h (Below.refl _ _) hB hg
end Go.Proofs.Ytndedplmcjfgeaa
