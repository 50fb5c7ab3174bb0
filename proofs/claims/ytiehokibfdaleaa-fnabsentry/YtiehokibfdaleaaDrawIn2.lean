/- What the drawing of two bounds answers: some four ints; it makes memory of its own alone. -/
import Derived.Test.YtiehokibfdaleaaDrawIn
import Derived.Test.YtiehokibfdaleaaPlainItv
namespace Go.Proofs.Ytiehokibfdaleaa
open Go.ChangeShapes Go.WideShapes Go.ChangeAt Go.RowKit

def DTwo (w : World) (e : Ending) (w' : World) : Prop := ∃ x0 x1 y0 y1 : Int, I64 x0 ∧ I64 x1 ∧ I64 y0 ∧ I64 y1 ∧ e = .returned (.tuple #[.agg #[.int .i64 x0, .int .i64 x1], .agg #[.int .i64 y0, .int .i64 y1]]) ∧ Below w.heap.size w w'
theorem box_set {B C i : Nat} {W : World} {v : Value} (h : BoxIn B W) : BoxIn B (W.setCell ⟨C, i, none⟩ v) := by
  obtain ⟨h0, ⟨u, hu⟩, ⟨u', hu'⟩, hf⟩ := h
  have key : ∀ o u, W.cell? ⟨B, o, none⟩ = some u → ∃ u', (W.setCell ⟨C, i, none⟩ v).cell? ⟨B, o, none⟩ = some u' := by
    intro o u hu
    by_cases he : (⟨C, i, none⟩ : Addr) = ⟨B, o, none⟩
    · rw [he]; exact ⟨v, World.cell?_setCell_same _ _ _ hu⟩
    · exact ⟨u, (World.cell?_setCell_other _ _ _ _ he).trans hu⟩
  exact ⟨by simpa [World.setCell] using h0, key 0 u hu, key 1 u' hu', fun j => by rw [World.frozen?_setCell]; exact hf j⟩
theorem two_other {B C i : Nat} {W : World} {v : Value} (h : TwoIn B W) (hne : B ≠ C) : TwoIn B (W.setCell ⟨C, i, none⟩ v) := by
  obtain ⟨h0, x, y, h1, h2, h3⟩ := h
  have o : ∀ j, (W.setCell ⟨C, i, none⟩ v).cell? ⟨B, j, none⟩ = W.cell? ⟨B, j, none⟩ := fun j => World.cell?_setCell_other _ _ _ _ (fun e => hne (by injection e with e; exact e.symm))
  exact ⟨by simpa [World.setCell] using h0, x, y, (o 0).trans h1, (o 1).trans h2, h3⟩
/-- What DrawItvIn holds: the two answers' blocks, the first bounds' block. -/
structure Bw (w : World) (R X : Nat) (x y : Int) (W : World) : Prop where
  below : Below w.heap.size w W
  r : R = w.heap.size + 1 + 1
  rx : R < X
  lt : X < W.heap.size
  p0 : BoxIn w.heap.size W
  p1 : BoxIn (w.heap.size + 1) W
  c0 : W.cell? ⟨X, 0, none⟩ = some (.int .i64 x)
  c1 : W.cell? ⟨X, 1, none⟩ = some (.int .i64 y)
theorem Bw.next {w : World} {R X : Nat} {x y : Int} {W W' : World} (h : Bw w R X x y W) (g : W.grownBy W' (some R)) : Bw w R X x y W' := by
  have r := h.r
  have hx := h.rx
  obtain ⟨hc, _⟩ := gcell g
  exact ⟨below_at h.below g (by omega), r, hx, Nat.lt_of_lt_of_le h.lt g.size, h.p0.next (R := R) (by omega) g, h.p1.next (R := R) (by omega) g, (hc X 0 h.lt (by omega)).trans h.c0, (hc X 1 h.lt (by omega)).trans h.c1⟩
theorem grown_below {W W' : World} (b : Below W.heap.size W W') (row : Option Nat) : W.grownBy W' row := ⟨b.os, b.tape, b.output, b.size, fun k hk _ => b.block k hk⟩
theorem Bw.put {w : World} {R X : Nat} {x y : Int} {W : World} (h : Bw w R X x y W) {B i : Nat} (hB : w.heap.size ≤ B) (hB' : B < R) (v : Value) : Bw w R X x y (W.setCell ⟨B, i, none⟩ v) := by
  have r := h.r
  have hx := h.rx
  have o : ∀ j, (W.setCell ⟨B, i, none⟩ v).cell? ⟨X, j, none⟩ = W.cell? ⟨X, j, none⟩ := fun j => World.cell?_setCell_other _ _ _ _ (fun e => by injection e with e; omega)
  exact ⟨h.below.setCell hB v, r, hx, by simpa [World.setCell] using h.lt, box_set h.p0, box_set h.p1, (o 0).trans h.c0, (o 1).trans h.c1⟩
/-- What its last regions hold, by what is done: c the call that draws, s and t the two answers' stores. -/
def SW (w : World) (R X : Nat) (a : Option Addr) (m c : Nat) (z : Nat → Int) (q : Nat) (x y : Int) (k s t : Nat) (L : Nat → Bool) (W : World) : Prop :=
  Bw w R X x y W ∧ (L k = false → Rd W R a m c z q) ∧ (L s = true → TwoIn w.heap.size W) ∧ (L t = true → TwoIn (w.heap.size + 1) W) ∧ (L s = true → L k = true) ∧ (L t = true → L s = true)
theorem SW.pure {w : World} {R X : Nat} {a : Option Addr} {m c : Nat} {z : Nat → Int} {q : Nat} {x y : Int} {k s t : Nat} {L : Nat → Bool} {W : World} (h : SW w R X a m c z q x y k s t L W) {i : Nat} (h1 : k ≠ i) (h2 : s ≠ i) (h3 : t ≠ i) : SW w R X a m c z q x y k s t (upd L i true) W := by
  unfold SW at *
  rw [upd_other _ _ h1, upd_other _ _ h2, upd_other _ _ h3]
  exact h
theorem SW.call {w : World} {R X : Nat} {a : Option Addr} {m c : Nat} {z : Nat → Int} {q : Nat} {x y : Int} {k s t : Nat} {L : Nat → Bool} {W W' : World} (h : SW w R X a m c z q x y k s t L W) (hL : L k = false) (h2 : s ≠ k) (h3 : t ≠ k) (g : W.grownBy W' (some R)) : SW w R X a m c z q x y k s t (upd L k true) W' := by
  obtain ⟨hB, hr, h4, h5, h6, h7⟩ := h
  have n1 : L s = false := by
    cases hs : L s with
    | false => rfl
    | true => have := h6 hs; rw [hL] at this; cases this
  have n2 : L t = false := by
    cases hs : L t with
    | false => rfl
    | true => have := h7 hs; rw [n1] at this; cases this
  unfold SW
  rw [upd_same, upd_other _ _ h2, upd_other _ _ h3, n1, n2]
  exact ⟨hB.next g, by simp, by simp, by simp, by simp, by simp⟩
theorem SW.fst {w : World} {R X : Nat} {a : Option Addr} {m c : Nat} {z : Nat → Int} {q : Nat} {x y : Int} {k s t : Nat} {L : Nat → Bool} {W : World} (h : SW w R X a m c z q x y k s t L W) (hL : L s = false) (hk : L k = true) (h1 : k ≠ s) (h3 : t ≠ s) {u v : Int} (hu : I64 u) (hv : I64 v) : SW w R X a m c z q x y k s t (upd L s true) ((W.setCell ⟨w.heap.size, 0, none⟩ (.int .i64 u)).setCell ⟨w.heap.size, 1, none⟩ (.int .i64 v)) := by
  obtain ⟨hB, hr, h4, h5, h6, h7⟩ := h
  have n2 : L t = false := by
    cases hs : L t with
    | false => rfl
    | true => have := h7 hs; rw [hL] at this; cases this
  have r := hB.r
  unfold SW
  rw [upd_same, upd_other _ _ h1, upd_other _ _ h3, n2, hk]
  exact ⟨(hB.put (Nat.le_refl _) (by omega) _).put (Nat.le_refl _) (by omega) _, by simp, fun _ => two_set hB.p0 hu hv, by simp, by simp, by simp⟩
theorem SW.snd {w : World} {R X : Nat} {a : Option Addr} {m c : Nat} {z : Nat → Int} {q : Nat} {x y : Int} {k s t : Nat} {L : Nat → Bool} {W : World} (h : SW w R X a m c z q x y k s t L W) (hs : L s = true) (h1 : k ≠ t) (h3 : s ≠ t) {u v : Int} (hu : I64 u) (hv : I64 v) : SW w R X a m c z q x y k s t (upd L t true) ((W.setCell ⟨w.heap.size + 1, 0, none⟩ (.int .i64 u)).setCell ⟨w.heap.size + 1, 1, none⟩ (.int .i64 v)) := by
  obtain ⟨hB, hr, h4, h5, h6, h7⟩ := h
  have r := hB.r
  have hk := h6 hs
  unfold SW
  rw [upd_same, upd_other _ _ h1, upd_other _ _ h3, hs, hk]
  exact ⟨(hB.put (by omega) (by omega) _).put (by omega) (by omega) _, by simp, fun _ => two_other (two_other (h4 hs) (by omega)) (by omega), fun _ => two_set hB.p1 hu hv, by simp, by simp⟩
/-- Some two ints. -/
def Ag (v : Value) : Prop := ∃ u0 u1 : Int, v = .agg #[.int .i64 u0, .int .i64 u1] ∧ I64 u0 ∧ I64 u1

end Go.Proofs.Ytiehokibfdaleaa
