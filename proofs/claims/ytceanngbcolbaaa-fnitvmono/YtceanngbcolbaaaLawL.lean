/- What the laws hold that go through a drawn list of numbers: blocks of two, and the list; the answers of what they call, by names. -/
import Derived.Test.YtceanngbcolbaaaDrawDo
import Derived.Test.YtceanngbcolbaaaDrawList
import Derived.Test.YtceanngbcolbaaaHeld
import Derived.Test.YtceanngbcolbaaaItvI
namespace Go.Proofs.Ytceanngbcolbaaa
open Go.ChangeShapes Go.WideShapes Go.ChangeAt Go.RowKit

theorem hasI_is (a b n : Int) (t : Bool) (w : World) (h : itvHas a b n = t) :
    Calls Try.prog 15 #[.agg #[.int .i64 a, .int .i64 b], .int .i64 n] w fun e w' => e = .returned (.bool t) ∧ Below w.heap.size w w' := by
  subst h; exact itvHasI a b n w
theorem inI_is (a b c d : Int) (t : Bool) (w : World) (h : itvIn a b c d = t) :
    Calls Try.prog 17 #[.agg #[.int .i64 a, .int .i64 b], .agg #[.int .i64 c, .int .i64 d]] w fun e w' => e = .returned (.bool t) ∧ Below w.heap.size w w' := by
  subst h; exact itvInI a b c d w
theorem relI_is (rel a b : Int) (t : Bool) (w : World) (h : relB rel a b = t) :
    Calls Try.prog 22 #[.int .i64 rel, .int .i64 a, .int .i64 b] w fun e w' => e = .returned (.bool t) ∧ Below w.heap.size w w' := by
  subst h
  refine (relI rel a b w).mono ?_
  rintro e w' ⟨rfl, rfl⟩
  exact ⟨rfl, Below.refl _ _⟩
theorem owOkT (w : World) : Calls Try.prog 12 #[] w fun e w' => e = .returned (.bool true) ∧ w' = w := by
  go_enter Try.func12, Try.ntmps12
  go_wp2_with (go_at_call 42; refine (okI _ _).mono ?_; rintro e w' ⟨rfl, rfl⟩)
  go_ret
  exact ⟨rfl, rfl⟩
/-- What the law holds: its blocks, and the list. -/
def HL (w : World) (Lb : List (Nat × List Value)) (g : Nat) (zs : List Int) (W : World) : Prop := HeldL w Lb W ∧ g < W.heap.size ∧ ∀ j, j < 12 → W.cell? ⟨g, j, none⟩ = some (.int .i64 (zs.getD j 0))
theorem HL.next {w : World} {Lb : List (Nat × List Value)} {g : Nat} {zs : List Int} {W W' : World} (hb : Below W.heap.size W W') (h : HL w Lb g zs W) : HL w Lb g zs W' :=
  ⟨h.1.next hb, Nat.lt_of_lt_of_le h.2.1 hb.size, fun j hj => (hb.cell (p := ⟨g, j, none⟩) h.2.1).trans (h.2.2 j hj)⟩
theorem HL.cell {w : World} {Lb : List (Nat × List Value)} {g : Nat} {zs : List Int} {W : World} (h : HL w Lb g zs W) {e : Nat × List Value} (he : e ∈ Lb) {i : Nat} {v : Value} (hv : e.2[i]? = some v) : W.cell? ⟨e.1, i, none⟩ = some v := h.1.cell he hv
theorem HL.cells {w : World} {Lb : List (Nat × List Value)} {g : Nat} {zs : List Int} {W : World} (h : HL w Lb g zs W) : ∀ j, j < 12 → W.cell? ⟨g, j, none⟩ = some (.int .i64 (zs.getD j 0)) := h.2.2
theorem HL.below {w : World} {Lb : List (Nat × List Value)} {g : Nat} {zs : List Int} {W : World} (h : HL w Lb g zs W) : Below w.heap.size w W := h.1.below
theorem HL.drew {w : World} {Lb : List (Nat × List Value)} {g : Nat} {zs : List Int} {W : World} (h : HL w Lb g zs W) : HL w Lb g zs W.drew := h.next (Below.refl _ W).drew
theorem HL.new {w W : World} {L : List (Nat × List Value)} {g : Nat} {zs : List Int} {x y : Value} {t : TypeId} (h : HL w L g zs W) : HL w ((W.heap.size, [x, y]) :: L) g zs (W.alloc (.cells #[x, y] t)) :=
  ⟨HeldL.new h.1, Nat.lt_of_lt_of_le h.2.1 (by simp), fun j hj => (World.cell?_alloc_lt _ _ _ h.2.1).trans (h.2.2 j hj)⟩
theorem HL.new2 {w W : World} {L : List (Nat × List Value)} {g : Nat} {zs : List Int} {x y p q : Value} {t : TypeId} (h : HL w L g zs W) : HL w ((W.heap.size + 1, [p, q]) :: (W.heap.size, [x, y]) :: L) g zs ((W.alloc (.cells #[x, y] t)).alloc (.cells #[p, q] t)) := by
  have e : W.heap.size + 1 = (W.alloc (.cells #[x, y] t)).heap.size := by simp
  rw [e]
  exact HL.new (HL.new h)
end Go.Proofs.Ytceanngbcolbaaa
