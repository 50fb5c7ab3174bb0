/- What the laws write into what they handed in or were handed back (marks), and look for again. -/
import Derived.Test.YtiehokibfdaleaaRun
import Derived.Test.YtiehokibfdaleaaPrgTo2
import Derived.Test.YtiehokibfdaleaaLst
namespace Go.Proofs.Ytiehokibfdaleaa
open Go.ChangeShapes Go.WideShapes Go.ChangeAt Go.RowKit

/-- Only blocks of T have turned; each cell is still there. -/
structure Turns (T : Nat → Prop) (W W' : World) : Prop where
  os : W'.os = W.os
  tape : W'.tape = W.tape
  output : W'.output = W.output
  size : W.heap.size ≤ W'.heap.size
  block : ∀ k, k < W.heap.size → ¬ T k → W'.heap[k]? = W.heap[k]?
  kept : ∀ p, p.block < W.heap.size → (W.cell? p).isSome = true → (W'.cell? p).isSome = true
  free : ∀ p, p.block < W.heap.size → W'.frozen? p = W.frozen? p
theorem Turns.refl (T : Nat → Prop) (W : World) : Turns T W W := ⟨rfl, rfl, rfl, Nat.le_refl _, fun _ _ _ => rfl, fun _ _ h => h, fun _ _ => rfl⟩
theorem Turns.trans {T : Nat → Prop} {a b c : World} (h : Turns T a b) (k : Turns T b c) : Turns T a c :=
  ⟨k.os.trans h.os, k.tape.trans h.tape, k.output.trans h.output, Nat.le_trans h.size k.size, fun i hi ht => (k.block i (Nat.lt_of_lt_of_le hi h.size) ht).trans (h.block i hi ht), fun p hp hs => k.kept p (Nat.lt_of_lt_of_le hp h.size) (h.kept p hp hs), fun p hp => (k.free p (Nat.lt_of_lt_of_le hp h.size)).trans (h.free p hp)⟩
theorem Turns.more {T U : Nat → Prop} {a b : World} (h : Turns T a b) (hT : ∀ k, T k → U k) : Turns U a b := ⟨h.os, h.tape, h.output, h.size, fun k hk hu => h.block k hk (fun ht => hu (hT k ht)), h.kept, h.free⟩
theorem Turns.ofBelow {T : Nat → Prop} {W W' : World} (h : Below W.heap.size W W') : Turns T W W' :=
  ⟨h.os, h.tape, h.output, h.size, fun k hk _ => h.block k hk, fun p hp hs => by rw [h.cell hp]; exact hs, fun p hp => h.frozen hp⟩
theorem Turns.below {T : Nat → Prop} {B : Nat} {W W' : World} (h : Turns T W W') (hB : B ≤ W.heap.size) (hT : ∀ k, T k → B ≤ k) : Below B W W' :=
  ⟨h.os, h.tape, h.output, h.size, fun k hk => h.block k (Nat.lt_of_lt_of_le hk hB) (fun ht => by have := hT k ht; omega)⟩
theorem Turns.cell {T : Nat → Prop} {W W' : World} (h : Turns T W W') {p : Addr} (hp : p.block < W.heap.size) (ht : ¬ T p.block) : W'.cell? p = W.cell? p := World.cell?_of_block (w := W) (h.block p.block hp ht)
theorem isSome_setCell {W : World} {p q : Addr} {v : Value} (h : (W.cell? p).isSome = true) : ((W.setCell q v).cell? p).isSome = true := by
  by_cases e : q = p
  · subst e
    rw [World.cell?_setCell_same' W q v h]; rfl
  · rw [World.cell?_setCell_other _ _ _ _ e]; exact h
theorem Turns.setCell {T : Nat → Prop} {a W : World} (h : Turns T a W) {p : Addr} (hp : T p.block) (v : Value) : Turns T a (W.setCell p v) :=
  ⟨h.os, h.tape, h.output, by simpa [World.setCell] using h.size, fun k hk ht => (Below.heap_setCell W p v k (fun e => ht (e ▸ hp))).trans (h.block k hk ht), fun q hq hs => isSome_setCell (h.kept q hq hs), fun q hq => (World.frozen?_setCell ..).trans (h.free q hq)⟩
theorem Turns.put {b o : Nat} {a W : World} (h : Turns (fun x => x = b) a W) (v : Value) : Turns (fun x => x = b) a (W.setCell ⟨b, o, none⟩ v) := h.setCell rfl v
theorem Turns.putG {g o : Nat} {a W : World} (h : Turns (fun x => g ≤ x) a W) (v : Value) : Turns (fun x => g ≤ x) a (W.setCell ⟨g, o, none⟩ v) := h.setCell (Nat.le_refl _) v
theorem Turns.alloc {T : Nat → Prop} {a W : World} (h : Turns T a W) (o : Obj) : Turns T a (W.alloc o) := h.trans (Turns.ofBelow ((Below.refl _ _).alloc (Nat.le_refl _) o))
theorem Turns.drew {T : Nat → Prop} {a W : World} (h : Turns T a W) : Turns T a W.drew := ⟨h.os, h.tape, h.output, h.size, h.block, h.kept, h.free⟩

/-- The cells of block b up to n are there, and may be written. -/
structure Room (b n : Nat) (W : World) : Prop where
  lt : b < W.heap.size
  there : ∀ i, i < n → (W.cell? ⟨b, i, none⟩).isSome = true
  free : ∀ i, W.frozen? ⟨b, i, none⟩ = false
theorem Room.turns {T : Nat → Prop} {b n : Nat} {W W' : World} (h : Room b n W) (t : Turns T W W') : Room b n W' :=
  ⟨Nat.lt_of_lt_of_le h.lt t.size, fun i hi => t.kept ⟨b, i, none⟩ h.lt (h.there i hi), fun i => (t.free ⟨b, i, none⟩ h.lt).trans (h.free i)⟩
theorem Room.get {b n : Nat} {W : World} (h : Room b n W) {i : Nat} (hi : i < n) : ∃ u, W.cell? ⟨b, i, none⟩ = some u := Option.isSome_iff_exists.1 (h.there i hi)

/-- A list of procedures that may be written, with the codes behind it. -/
structure ProcRoom (g m : Nat) (P : Nat → Proc) (S : Nat → Spot) (W : World) : Prop where
  room : Room g (m * 3) W
  code : ∀ i, i < m → W.cell? ⟨g, i * 3 + 2, none⟩ = some (.slice (some ⟨(S i).b, 0, none⟩) (P i).n (P i).n)
  behind : ∀ i, i < m → g < (S i).b
  rooms : ∀ i, i < m → Room (S i).b ((P i).n * 8) W
theorem ProcsAt.room {g m : Nat} {P : Nat → Proc} {S : Nat → Spot} {W : World} (h : ProcsAt (some ⟨g, 0, none⟩) g 0 m P S W) (hf : Fresh g m S W) (hc : Copy S P m) : ProcRoom g m P S W := by
  refine ⟨⟨hf.lt, fun i hi => ?_, hf.free⟩, fun i hi => ?_, hf.behind, fun i hi => ⟨hf.lcode i hi, fun k hk => ?_, hf.fcode i hi⟩⟩
  · obtain ⟨q, r, hr, rfl⟩ : ∃ q r, r < 3 ∧ i = q * 3 + r := ⟨i / 3, i % 3, Nat.mod_lt _ (by omega), by omega⟩
    have hq : q < m := by omega
    have e0 := h.lo q hq
    have e1 := h.hi q hq
    have e2 := h.code q hq
    rw [Nat.zero_add] at e0 e1 e2
    rcases (show r = 0 ∨ r = 1 ∨ r = 2 by omega) with rfl | rfl | rfl
    · rw [Nat.add_zero, e0]; rfl
    · rw [e1]; rfl
    · rw [e2]; rfl
  · have e2 := h.code i hi
    rw [Nat.zero_add, hc i hi] at e2
    exact e2
  · obtain ⟨q, r, hr, rfl⟩ : ∃ q r, r < 8 ∧ k = q * 8 + r := ⟨k / 8, k % 8, Nat.mod_lt _ (by omega), by omega⟩
    have e := (h.steps i hi).cell q r (by omega) hr
    have ho : (S i).off = 0 := by rw [hc i hi]
    rw [ho, Nat.zero_add] at e
    rw [e]; rfl
/-- How many marks the first procedures take. -/
def markTo (P : Nat → Proc) (i : Nat) : Int := 1 + 2 * i + sizeTo P i * 8
theorem sizeTo_up {P : Nat → Proc} {i m : Nat} (h : i ≤ m) : sizeTo P i ≤ sizeTo P m := by
  induction m with
  | zero => have : i = 0 := by omega
            subst this; exact Nat.le_refl _
  | succ m ih =>
    rcases (show i ≤ m ∨ i = m + 1 by omega) with h' | rfl
    · have := ih h'
      simp only [sizeTo]; omega
    · exact Nat.le_refl _
theorem LstAt.turns {T : Nat → Prop} {B g : Nat} {a : Option Addr} {zs : List Int} {W W' : World} (h : LstAt B g a zs W) (t : Turns T W W') (hT : 0 < zs.length → ¬ T g) : LstAt B g a zs W' :=
  ⟨h.at_, fun hz => ⟨(h.lo hz).1, Nat.lt_of_lt_of_le (h.lo hz).2 t.size⟩, fun j hj => (t.cell (p := ⟨g, j, none⟩) (h.lo (by omega)).2 (hT (by omega))).trans (h.cell j hj), fun hz j => (t.free ⟨g, j, none⟩ (h.lo hz).2).trans (h.free hz j)⟩
/-- What a region of a law holds on to: two blocks' first cells, and that nothing of V has turned. -/
def KB (V : World) (X Y : Nat) (x y : Value) (W : World) : Prop := W.cell? ⟨X, 0, none⟩ = some x ∧ W.cell? ⟨Y, 0, none⟩ = some y ∧ Below V.heap.size V W
theorem KB.of {V : World} {X Y : Nat} {x y : Value} {W : World} (hX : X < V.heap.size ∧ V.cell? ⟨X, 0, none⟩ = some x) (hY : Y < V.heap.size ∧ V.cell? ⟨Y, 0, none⟩ = some y) (h : Below V.heap.size V W) : KB V X Y x y W :=
  ⟨(h.cell (p := ⟨X, 0, none⟩) hX.1).trans hX.2, (h.cell (p := ⟨Y, 0, none⟩) hY.1).trans hY.2, h⟩
theorem KB.held {V : World} {X Y : Nat} {x y : Value} {W : World} (h : KB V X Y x y W) : Below V.heap.size V W := h.2.2
end Go.Proofs.Ytiehokibfdaleaa
