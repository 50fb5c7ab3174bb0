/- Cells that a law marks one by one and looks for again: an address for each mark. -/
import Derived.Test.YtiehokibfdaleaaMarks
namespace Go.Proofs.Ytiehokibfdaleaa
open Go.ChangeShapes Go.WideShapes Go.ChangeAt Go.RowKit

/-- The cells to be marked: each lies at or behind B, may be written, and is another one. -/
structure Pen (ad : Nat → Addr) (N B : Nat) (W : World) : Prop where
  inj : ∀ i j, i < N → j < N → ad i = ad j → i = j
  lo : ∀ i, i < N → B ≤ (ad i).block ∧ (ad i).block < W.heap.size
  there : ∀ i, i < N → (W.cell? (ad i)).isSome = true
  free : ∀ i, i < N → W.frozen? (ad i) = false
/-- The first n are marked. -/
def Mk (ad : Nat → Addr) (n : Nat) (W : World) : Prop := ∀ j, j < n → W.cell? (ad j) = some (.int .i64 ((j : Int) + 1))
/-- Only such cells have turned. -/
structure Wrote (ad : Nat → Addr) (N B : Nat) (W W' : World) : Prop where
  below : Below B W W'
  size : W.heap.size ≤ W'.heap.size
  other : ∀ p, p.block < W.heap.size → (∀ j, j < N → p ≠ ad j) → W'.cell? p = W.cell? p
  free : ∀ p, p.block < W.heap.size → W'.frozen? p = W.frozen? p
  kept : ∀ p, p.block < W.heap.size → (W.cell? p).isSome = true → (W'.cell? p).isSome = true
theorem Wrote.refl (ad : Nat → Addr) (N B : Nat) (W : World) : Wrote ad N B W W := ⟨Below.refl _ _, Nat.le_refl _, fun _ _ _ => rfl, fun _ _ => rfl, fun _ _ h => h⟩
theorem Wrote.trans {ad : Nat → Addr} {N B : Nat} {a b c : World} (h : Wrote ad N B a b) (k : Wrote ad N B b c) : Wrote ad N B a c :=
  ⟨h.below.trans k.below, Nat.le_trans h.size k.size, fun p hp hq => (k.other p (Nat.lt_of_lt_of_le hp h.size) hq).trans (h.other p hp hq), fun p hp => (k.free p (Nat.lt_of_lt_of_le hp h.size)).trans (h.free p hp), fun p hp hs => k.kept p (Nat.lt_of_lt_of_le hp h.size) (h.kept p hp hs)⟩
theorem Wrote.ofBelow {ad : Nat → Addr} {N B : Nat} {W W' : World} (h : Below W.heap.size W W') (hB : B ≤ W.heap.size) : Wrote ad N B W W' :=
  ⟨h.mono hB, h.size, fun _ hp _ => h.cell hp, fun _ hp => h.frozen hp, fun _ hp hs => by rw [h.cell hp]; exact hs⟩
theorem Pen.next {ad : Nat → Addr} {N B M : Nat} {W W' : World} (h : Pen ad N B W) (k : Wrote ad M B W W') : Pen ad N B W' :=
  ⟨h.inj, fun i hi => ⟨(h.lo i hi).1, Nat.lt_of_lt_of_le (h.lo i hi).2 k.size⟩, fun i hi => k.kept _ (h.lo i hi).2 (h.there i hi), fun i hi => (k.free _ (h.lo i hi).2).trans (h.free i hi)⟩
theorem Pen.below {ad : Nat → Addr} {N B : Nat} {W W' : World} (h : Pen ad N B W) (k : Below W.heap.size W W') : Pen ad N B W' :=
  ⟨h.inj, fun i hi => ⟨(h.lo i hi).1, Nat.lt_of_lt_of_le (h.lo i hi).2 k.size⟩, fun i hi => by rw [k.cell (h.lo i hi).2]; exact h.there i hi, fun i hi => (k.frozen (h.lo i hi).2).trans (h.free i hi)⟩
theorem Mk.below {ad : Nat → Addr} {N B n : Nat} {W W' : World} (h : Mk ad n W) (hP : Pen ad N B W) (hn : n ≤ N) (k : Below W.heap.size W W') : Mk ad n W' := fun j hj => (k.cell (hP.lo j (by omega)).2).trans (h j hj)
/-- One mark. -/
theorem Wrote.one {ad : Nat → Addr} {N B n : Nat} {W : World} (hP : Pen ad N B W) (hn : n < N) {p : Addr} (hp : ad n = p) (v : Value) : Wrote ad N B W (W.setCell p v) := by
  subst hp
  refine ⟨(Below.refl _ _).setCell (hP.lo n hn).1 _, by simp [World.setCell], fun q _ hq => World.cell?_setCell_other _ _ _ _ (fun e => hq n hn e.symm), fun q _ => World.frozen?_setCell .., fun q _ hs => isSome_setCell hs⟩
theorem Mk.one {ad : Nat → Addr} {N B n : Nat} {W : World} (h : Mk ad n W) (hP : Pen ad N B W) (hn : n < N) {p : Addr} (hp : ad n = p) {v : Value} (hv : v = .int .i64 ((n : Int) + 1)) : Mk ad (n + 1) (W.setCell p v) := by
  subst hp hv
  intro j hj
  by_cases e : j = n
  · subst e
    exact World.cell?_setCell_same' _ _ _ (hP.there j hn)
  · rw [World.cell?_setCell_other _ _ _ _ (fun e' => e (hP.inj j n (by omega) hn e'.symm))]
    exact h j (by omega)

end Go.Proofs.Ytiehokibfdaleaa
