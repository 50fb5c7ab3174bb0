/- What the laws write into what they handed in or were handed back (marks), and look for again. · Cells that a law marks one by one and looks for again: an address for each mark. · A state that is answered: its list lies in memory of its own. Held against another one, marked, looked for. What copies a list of four bounds; an arrival's set and state. · Lists of numbers, drawn: so many of any; of a state's bounds, variables and cells (l21Point). -/
import Derived.Test.YtiehokibfdaleaaG8
import Derived.Test.YtiehokibfdaleaaG12
import Derived.Deep.AppendSrc
import Derived.Lib.SliceRun
import Derived.Test.YtiehokibfdaleaaG5
import Derived.Test.YtiehokibfdaleaaG10
namespace Go.Proofs.Ytiehokibfdaleaa
open Go.ChangeShapes Go.WideShapes Go.ChangeAt Go.RowKit

/-- Only blocks of T have turned; each cell is still there. -/
structure Turns (T : Nat → Prop) (W W' : World) : Prop where
  os : W'.os = W.os
  tape : W'.tape = W.tape
  output : W'.output = W.output
  size : W.heap.size ≤ W'.heap.size
  block : ∀ k, k < W.heap.size → ¬ T k → W'.heap[k]? = W.heap[k]?
  kept : ∀ p, p.block < W.heap.size → (W.cell? p).isSome = true → (W'.cell? p).isSome = true
  free : ∀ p, p.block < W.heap.size → W'.frozen? p = W.frozen? p
theorem Turns.refl (T : Nat → Prop) (W : World) : Turns T W W := ⟨rfl, rfl, rfl, Nat.le_refl _, fun _ _ _ => rfl, fun _ _ h => h, fun _ _ => rfl⟩
theorem Turns.trans {T : Nat → Prop} {a b c : World} (h : Turns T a b) (k : Turns T b c) : Turns T a c :=
  ⟨k.os.trans h.os, k.tape.trans h.tape, k.output.trans h.output, Nat.le_trans h.size k.size, fun i hi ht => (k.block i (Nat.lt_of_lt_of_le hi h.size) ht).trans (h.block i hi ht), fun p hp hs => k.kept p (Nat.lt_of_lt_of_le hp h.size) (h.kept p hp hs), fun p hp => (k.free p (Nat.lt_of_lt_of_le hp h.size)).trans (h.free p hp)⟩
theorem Turns.more {T U : Nat → Prop} {a b : World} (h : Turns T a b) (hT : ∀ k, T k → U k) : Turns U a b := ⟨h.os, h.tape, h.output, h.size, fun k hk hu => h.block k hk (fun ht => hu (hT k ht)), h.kept, h.free⟩
theorem Turns.ofBelow {T : Nat → Prop} {W W' : World} (h : Below W.heap.size W W') : Turns T W W' :=
  ⟨h.os, h.tape, h.output, h.size, fun k hk _ => h.block k hk, fun p hp hs => by rw [h.cell hp]; exact hs, fun p hp => h.frozen hp⟩
theorem Turns.below {T : Nat → Prop} {B : Nat} {W W' : World} (h : Turns T W W') (hB : B ≤ W.heap.size) (hT : ∀ k, T k → B ≤ k) : Below B W W' :=
  ⟨h.os, h.tape, h.output, h.size, fun k hk => h.block k (Nat.lt_of_lt_of_le hk hB) (fun ht => by have := hT k ht; omega)⟩
theorem Turns.cell {T : Nat → Prop} {W W' : World} (h : Turns T W W') {p : Addr} (hp : p.block < W.heap.size) (ht : ¬ T p.block) : W'.cell? p = W.cell? p := World.cell?_of_block (w := W) (h.block p.block hp ht)
theorem isSome_setCell {W : World} {p q : Addr} {v : Value} (h : (W.cell? p).isSome = true) : ((W.setCell q v).cell? p).isSome = true := by
  by_cases e : q = p
  · subst e
    rw [World.cell?_setCell_same' W q v h]; rfl
  · rw [World.cell?_setCell_other _ _ _ _ e]; exact h
theorem Turns.setCell {T : Nat → Prop} {a W : World} (h : Turns T a W) {p : Addr} (hp : T p.block) (v : Value) : Turns T a (W.setCell p v) :=
  ⟨h.os, h.tape, h.output, by simpa [World.setCell] using h.size, fun k hk ht => (Below.heap_setCell W p v k (fun e => ht (e ▸ hp))).trans (h.block k hk ht), fun q hq hs => isSome_setCell (h.kept q hq hs), fun q hq => (World.frozen?_setCell ..).trans (h.free q hq)⟩
theorem Turns.put {b o : Nat} {a W : World} (h : Turns (fun x => x = b) a W) (v : Value) : Turns (fun x => x = b) a (W.setCell ⟨b, o, none⟩ v) := h.setCell rfl v
theorem Turns.putG {g o : Nat} {a W : World} (h : Turns (fun x => g ≤ x) a W) (v : Value) : Turns (fun x => g ≤ x) a (W.setCell ⟨g, o, none⟩ v) := h.setCell (Nat.le_refl _) v
theorem Turns.alloc {T : Nat → Prop} {a W : World} (h : Turns T a W) (o : Obj) : Turns T a (W.alloc o) := h.trans (Turns.ofBelow ((Below.refl _ _).alloc (Nat.le_refl _) o))
theorem Turns.drew {T : Nat → Prop} {a W : World} (h : Turns T a W) : Turns T a W.drew := ⟨h.os, h.tape, h.output, h.size, h.block, h.kept, h.free⟩

/-- The cells of block b up to n are there, and may be written. -/
structure Room (b n : Nat) (W : World) : Prop where
  lt : b < W.heap.size
  there : ∀ i, i < n → (W.cell? ⟨b, i, none⟩).isSome = true
  free : ∀ i, W.frozen? ⟨b, i, none⟩ = false
theorem Room.turns {T : Nat → Prop} {b n : Nat} {W W' : World} (h : Room b n W) (t : Turns T W W') : Room b n W' :=
  ⟨Nat.lt_of_lt_of_le h.lt t.size, fun i hi => t.kept ⟨b, i, none⟩ h.lt (h.there i hi), fun i => (t.free ⟨b, i, none⟩ h.lt).trans (h.free i)⟩
theorem Room.get {b n : Nat} {W : World} (h : Room b n W) {i : Nat} (hi : i < n) : ∃ u, W.cell? ⟨b, i, none⟩ = some u := Option.isSome_iff_exists.1 (h.there i hi)

/-- A list of procedures that may be written, with the codes behind it. -/
structure ProcRoom (g m : Nat) (P : Nat → Proc) (S : Nat → Spot) (W : World) : Prop where
  room : Room g (m * 3) W
  code : ∀ i, i < m → W.cell? ⟨g, i * 3 + 2, none⟩ = some (.slice (some ⟨(S i).b, 0, none⟩) (P i).n (P i).n)
  behind : ∀ i, i < m → g < (S i).b
  rooms : ∀ i, i < m → Room (S i).b ((P i).n * 8) W
theorem ProcsAt.room {g m : Nat} {P : Nat → Proc} {S : Nat → Spot} {W : World} (h : ProcsAt (some ⟨g, 0, none⟩) g 0 m P S W) (hf : Fresh g m S W) (hc : Copy S P m) : ProcRoom g m P S W := by
  refine ⟨⟨hf.lt, fun i hi => ?_, hf.free⟩, fun i hi => ?_, hf.behind, fun i hi => ⟨hf.lcode i hi, fun k hk => ?_, hf.fcode i hi⟩⟩
  · obtain ⟨q, r, hr, rfl⟩ : ∃ q r, r < 3 ∧ i = q * 3 + r := ⟨i / 3, i % 3, Nat.mod_lt _ (by omega), by omega⟩
    have hq : q < m := by omega
    have e0 := h.lo q hq
    have e1 := h.hi q hq
    have e2 := h.code q hq
    rw [Nat.zero_add] at e0 e1 e2
    rcases (show r = 0 ∨ r = 1 ∨ r = 2 by omega) with rfl | rfl | rfl
    · rw [Nat.add_zero, e0]; rfl
    · rw [e1]; rfl
    · rw [e2]; rfl
  · have e2 := h.code i hi
    rw [Nat.zero_add, hc i hi] at e2
    exact e2
  · obtain ⟨q, r, hr, rfl⟩ : ∃ q r, r < 8 ∧ k = q * 8 + r := ⟨k / 8, k % 8, Nat.mod_lt _ (by omega), by omega⟩
    have e := (h.steps i hi).cell q r (by omega) hr
    have ho : (S i).off = 0 := by rw [hc i hi]
    rw [ho, Nat.zero_add] at e
    rw [e]; rfl
/-- How many marks the first procedures take. -/
def markTo (P : Nat → Proc) (i : Nat) : Int := 1 + 2 * i + sizeTo P i * 8
theorem sizeTo_up {P : Nat → Proc} {i m : Nat} (h : i ≤ m) : sizeTo P i ≤ sizeTo P m := by
  induction m with
  | zero => have : i = 0 := by omega
            subst this; exact Nat.le_refl _
  | succ m ih =>
    rcases (show i ≤ m ∨ i = m + 1 by omega) with h' | rfl
    · have := ih h'
      simp only [sizeTo]; omega
    · exact Nat.le_refl _
theorem LstAt.turns {T : Nat → Prop} {B g : Nat} {a : Option Addr} {zs : List Int} {W W' : World} (h : LstAt B g a zs W) (t : Turns T W W') (hT : 0 < zs.length → ¬ T g) : LstAt B g a zs W' :=
  ⟨h.at_, fun hz => ⟨(h.lo hz).1, Nat.lt_of_lt_of_le (h.lo hz).2 t.size⟩, fun j hj => (t.cell (p := ⟨g, j, none⟩) (h.lo (by omega)).2 (hT (by omega))).trans (h.cell j hj), fun hz j => (t.free ⟨g, j, none⟩ (h.lo hz).2).trans (h.free hz j)⟩
/-- What a region of a law holds on to: two blocks' first cells, and that nothing of V has turned. -/
def KB (V : World) (X Y : Nat) (x y : Value) (W : World) : Prop := W.cell? ⟨X, 0, none⟩ = some x ∧ W.cell? ⟨Y, 0, none⟩ = some y ∧ Below V.heap.size V W
theorem KB.of {V : World} {X Y : Nat} {x y : Value} {W : World} (hX : X < V.heap.size ∧ V.cell? ⟨X, 0, none⟩ = some x) (hY : Y < V.heap.size ∧ V.cell? ⟨Y, 0, none⟩ = some y) (h : Below V.heap.size V W) : KB V X Y x y W :=
  ⟨(h.cell (p := ⟨X, 0, none⟩) hX.1).trans hX.2, (h.cell (p := ⟨Y, 0, none⟩) hY.1).trans hY.2, h⟩
theorem KB.held {V : World} {X Y : Nat} {x y : Value} {W : World} (h : KB V X Y x y W) : Below V.heap.size V W := h.2.2
end Go.Proofs.Ytiehokibfdaleaa
namespace Go.Proofs.Ytiehokibfdaleaa
open Go.ChangeShapes Go.WideShapes Go.ChangeAt Go.RowKit

/-- The cells to be marked: each lies at or behind B, may be written, and is another one. -/
structure Pen (ad : Nat → Addr) (N B : Nat) (W : World) : Prop where
  inj : ∀ i j, i < N → j < N → ad i = ad j → i = j
  lo : ∀ i, i < N → B ≤ (ad i).block ∧ (ad i).block < W.heap.size
  there : ∀ i, i < N → (W.cell? (ad i)).isSome = true
  free : ∀ i, i < N → W.frozen? (ad i) = false
/-- The first n are marked. -/
def Mk (ad : Nat → Addr) (n : Nat) (W : World) : Prop := ∀ j, j < n → W.cell? (ad j) = some (.int .i64 ((j : Int) + 1))
/-- Only such cells have turned. -/
structure Wrote (ad : Nat → Addr) (N B : Nat) (W W' : World) : Prop where
  below : Below B W W'
  size : W.heap.size ≤ W'.heap.size
  other : ∀ p, p.block < W.heap.size → (∀ j, j < N → p ≠ ad j) → W'.cell? p = W.cell? p
  free : ∀ p, p.block < W.heap.size → W'.frozen? p = W.frozen? p
  kept : ∀ p, p.block < W.heap.size → (W.cell? p).isSome = true → (W'.cell? p).isSome = true
theorem Wrote.refl (ad : Nat → Addr) (N B : Nat) (W : World) : Wrote ad N B W W := ⟨Below.refl _ _, Nat.le_refl _, fun _ _ _ => rfl, fun _ _ => rfl, fun _ _ h => h⟩
theorem Wrote.trans {ad : Nat → Addr} {N B : Nat} {a b c : World} (h : Wrote ad N B a b) (k : Wrote ad N B b c) : Wrote ad N B a c :=
  ⟨h.below.trans k.below, Nat.le_trans h.size k.size, fun p hp hq => (k.other p (Nat.lt_of_lt_of_le hp h.size) hq).trans (h.other p hp hq), fun p hp => (k.free p (Nat.lt_of_lt_of_le hp h.size)).trans (h.free p hp), fun p hp hs => k.kept p (Nat.lt_of_lt_of_le hp h.size) (h.kept p hp hs)⟩
theorem Wrote.ofBelow {ad : Nat → Addr} {N B : Nat} {W W' : World} (h : Below W.heap.size W W') (hB : B ≤ W.heap.size) : Wrote ad N B W W' :=
  ⟨h.mono hB, h.size, fun _ hp _ => h.cell hp, fun _ hp => h.frozen hp, fun _ hp hs => by rw [h.cell hp]; exact hs⟩
theorem Pen.next {ad : Nat → Addr} {N B M : Nat} {W W' : World} (h : Pen ad N B W) (k : Wrote ad M B W W') : Pen ad N B W' :=
  ⟨h.inj, fun i hi => ⟨(h.lo i hi).1, Nat.lt_of_lt_of_le (h.lo i hi).2 k.size⟩, fun i hi => k.kept _ (h.lo i hi).2 (h.there i hi), fun i hi => (k.free _ (h.lo i hi).2).trans (h.free i hi)⟩
theorem Pen.below {ad : Nat → Addr} {N B : Nat} {W W' : World} (h : Pen ad N B W) (k : Below W.heap.size W W') : Pen ad N B W' :=
  ⟨h.inj, fun i hi => ⟨(h.lo i hi).1, Nat.lt_of_lt_of_le (h.lo i hi).2 k.size⟩, fun i hi => by rw [k.cell (h.lo i hi).2]; exact h.there i hi, fun i hi => (k.frozen (h.lo i hi).2).trans (h.free i hi)⟩
theorem Mk.below {ad : Nat → Addr} {N B n : Nat} {W W' : World} (h : Mk ad n W) (hP : Pen ad N B W) (hn : n ≤ N) (k : Below W.heap.size W W') : Mk ad n W' := fun j hj => (k.cell (hP.lo j (by omega)).2).trans (h j hj)
/-- One mark. -/
theorem Wrote.one {ad : Nat → Addr} {N B n : Nat} {W : World} (hP : Pen ad N B W) (hn : n < N) {p : Addr} (hp : ad n = p) (v : Value) : Wrote ad N B W (W.setCell p v) := by
  subst hp
  refine ⟨(Below.refl _ _).setCell (hP.lo n hn).1 _, by simp [World.setCell], fun q _ hq => World.cell?_setCell_other _ _ _ _ (fun e => hq n hn e.symm), fun q _ => World.frozen?_setCell .., fun q _ hs => isSome_setCell hs⟩
theorem Mk.one {ad : Nat → Addr} {N B n : Nat} {W : World} (h : Mk ad n W) (hP : Pen ad N B W) (hn : n < N) {p : Addr} (hp : ad n = p) {v : Value} (hv : v = .int .i64 ((n : Int) + 1)) : Mk ad (n + 1) (W.setCell p v) := by
  subst hp hv
  intro j hj
  by_cases e : j = n
  · subst e
    exact World.cell?_setCell_same' _ _ _ (hP.there j hn)
  · rw [World.cell?_setCell_other _ _ _ _ (fun e' => e (hP.inj j n (by omega) hn e'.symm))]
    exact h j (by omega)

end Go.Proofs.Ytiehokibfdaleaa
namespace Go.Proofs.Ytiehokibfdaleaa
open Go.ChangeShapes Go.WideShapes Go.ChangeAt Go.RowKit
set_option linter.unusedVariables false

/-- A list of bounds in a block of its own, at or behind B. -/
structure BndsIs (B n : Nat) (lo hi : Nat → Int) (a : Option Addr) (g : Nat) (W : World) : Prop where
  own : 0 < n → B ≤ g
  free : 0 < n → ∀ i, W.frozen? ⟨g, i, none⟩ = false
  at_ : BndsAt a g 0 n lo hi W
theorem BndsIs.next {B n : Nat} {lo hi : Nat → Int} {a : Option Addr} {g : Nat} {W W' : World} (h : BndsIs B n lo hi a g W) (hb : Below W.heap.size W W') : BndsIs B n lo hi a g W' :=
  ⟨h.own, fun hn i => (hb.frozen (p := ⟨g, i, none⟩) (h.at_.lt hn)).trans (h.free hn i), h.at_.next hb⟩
theorem BndsIs.base {B C n : Nat} {lo hi : Nat → Int} {a : Option Addr} {g : Nat} {W : World} (h : BndsIs B n lo hi a g W) (hC : C ≤ B) : BndsIs C n lo hi a g W :=
  ⟨fun hn => Nat.le_trans hC (h.own hn), h.free, h.at_⟩
theorem BndsIs.set {B n : Nat} {lo hi : Nat → Int} {a : Option Addr} {g : Nat} {W : World} {G o : Nat} {vs : List Value} (h : BndsIs B n lo hi a g W) (hne : G < B) : BndsIs B n lo hi a g (setAll G o vs W) := by
  by_cases hn : 0 < n
  · have := h.own hn
    exact ⟨h.own, fun _ i => (setAll_frozen _ _ _ _).trans (h.free hn i), h.at_.set (by omega)⟩
  · exact ⟨fun e => absurd e hn, fun e => absurd e hn, ⟨fun e => absurd e hn, fun e => absurd e hn, fun k hk => by omega, fun k hk => by omega⟩⟩
/-- A state, as answered. -/
def StIs (B : Nat) (on : Bool) (n : Nat) (lo hi : Nat → Int) (c d : Int) (v : Value) (W : World) : Prop := ∃ (a : Option Addr) (g cap : Nat), v = .agg #[.bool on, .slice a n cap, .int .i64 c, .int .i64 d] ∧ BndsIs B n lo hi a g W
theorem StIs.next {B : Nat} {on : Bool} {n : Nat} {lo hi : Nat → Int} {c d : Int} {v : Value} {W W' : World} (h : StIs B on n lo hi c d v W) (hb : Below W.heap.size W W') : StIs B on n lo hi c d v W' := by
  obtain ⟨a, g, cap, e, h1⟩ := h
  exact ⟨a, g, cap, e, h1.next hb⟩
theorem BndsIs.nil0 (B : Nat) (lo hi : Nat → Int) (W : World) : BndsIs B 0 lo hi none 0 W := ⟨fun h => absurd h (by omega), fun h => absurd h (by omega), ⟨fun h => absurd h (by omega), fun h => absurd h (by omega), fun k hk => absurd hk (by omega), fun k hk => absurd hk (by omega)⟩⟩
/-- The cells of a list of bounds, to be marked. -/
theorem BndsIs.pen {B n : Nat} {lo hi : Nat → Int} {a : Option Addr} {g : Nat} {W : World} (h : BndsIs B n lo hi a g W) : Pen (fun j => ⟨g, j, none⟩) (n * 2) B W := by
  refine ⟨fun i j _ _ e => by injection e, fun i hi => ⟨h.own (by omega), h.at_.lt (by omega)⟩, fun i hi => ?_, fun i hi => h.free (by omega) i⟩
  rcases (show i % 2 = 0 ∨ i % 2 = 1 by omega) with e | e
  · have := h.at_.lo (i / 2) (by omega)
    rw [Nat.zero_add, show i / 2 * 2 = i by omega] at this
    simp only [this]; rfl
  · have := h.at_.hi (i / 2) (by omega)
    rw [Nat.zero_add, show i / 2 * 2 + 1 = i by omega] at this
    simp only [this]; rfl
/-- An append whose run is known. -/
theorem wpList_append_run {P : Program} {w : World} {ops : Array Oper} {rest : List Oper} {o : Oper} {a : Act} {Q : Exit → Act → World → Prop} (hgd : o.guard = none) (d s : Operand) (dT sT : TypeId)
    (ho : o.op = .call { callee := .builtin .append, args := #[d, s], argTypes := #[dT, sT] }) (x y v' : Value) (w' : World) (hd : a.eval d = x) (hs : a.eval s = y)
    (hrun : ∀ ty, (Builtin.append_ #[dT, sT] ty #[x, y]).run P w = .ok v' w') (h : wpList P ops Q rest (a.put o.dst v') w') : wpList P ops Q (o :: rest) a w := by
  refine wpList_plain hgd fun K hK => ?_
  have hr := hrun o.type
  unfold Oper.wp
  simp [execOp, ho, resolve, invoke, builtin, hd, hs, hr, Result.andThen]
  exact hK _ _ h
set_option maxRecDepth 10000 in
set_option maxHeartbeats 4000000 in
theorem cloneI (b off cap : Nat) (lo hi : Nat → Int) (w : World) (hC : BndsAt (some ⟨b, off, none⟩) b off 4 lo hi w) :
    Calls Try.prog 48 #[.slice (some ⟨b, off, none⟩) 4 cap] w fun e w' => ∃ g c : Nat, e = .returned (.slice (some ⟨g, 0, none⟩) 4 c) ∧ BndsIs w.heap.size 4 lo hi (some ⟨g, 0, none⟩) g w' ∧ Below w.heap.size w w' := by
  have b0 : Below w.heap.size w (w.alloc (.cells #[] 25)) := (Below.refl _ _).alloc (Nat.le_refl _) _
  have hI := hC.next b0
  have s0 := hI.lo 0 (by omega)
  have s1 := hI.hi 0 (by omega)
  have s2 := hI.lo 1 (by omega)
  have s3 := hI.hi 1 (by omega)
  have s4 := hI.lo 2 (by omega)
  have s5 := hI.hi 2 (by omega)
  have s6 := hI.lo 3 (by omega)
  have s7 := hI.hi 3 (by omega)
  simp only [Nat.zero_mul, Nat.one_mul, Nat.reduceMul, Nat.add_assoc, Nat.reduceAdd, Nat.add_zero] at s0 s1 s2 s3 s4 s5 s6 s7
  obtain ⟨i, hi0, hzz⟩ := Option.map_eq_some_iff.1 (show (Try.prog.info? 25).map (fun i => (i.zero, i.size, i.bytes)) = some (some (.agg #[.int .i64 0, .int .i64 0]), 2, 16) by kernel_rfl)
  simp only [Prod.mk.injEq] at hzz
  obtain ⟨hz, hs2, hb16⟩ := hzz
  have hsrc : Src Try.prog i.size 23 (.slice (some ⟨b, off, none⟩) 4 cap) 4 [.int .i64 (lo 0), .int .i64 (hi 0), .int .i64 (lo 1), .int .i64 (hi 1), .int .i64 (lo 2), .int .i64 (hi 2), .int .i64 (lo 3), .int .i64 (hi 3)] (w.alloc (.cells #[] 25)) := by
    rw [hs2]
    exact Src.ofSlice _ Try.underlying23 ⟨b, off, none⟩ 4 cap [.int .i64 (lo 0), .int .i64 (hi 0), .int .i64 (lo 1), .int .i64 (hi 1), .int .i64 (lo 2), .int .i64 (hi 2), .int .i64 (lo 3), .int .i64 (hi 3)] rfl (fun j v hj => by
      rw [addr_mk]
      match j, hj with
      | 0, hj => simp at hj; subst hj; exact s0
      | 1, hj => simp at hj; subst hj; exact s1
      | 2, hj => simp at hj; subst hj; exact s2
      | 3, hj => simp at hj; subst hj; exact s3
      | 4, hj => simp at hj; subst hj; exact s4
      | 5, hj => simp at hj; subst hj; exact s5
      | 6, hj => simp at hj; subst hj; exact s6
      | 7, hj => simp at hj; subst hj; exact s7
      | j + 8, hj => simp at hj) (by simp [Value.oneCell'])
  have hap := fun ty => run_append_grow_src (P := Try.prog) (w.alloc (.cells #[] 25)) 23 23 ty 25 i _ Try.underlying23 hi0 hz (some ⟨w.heap.size, 0, none⟩) 0 0 []
    (run_firstCells_some _ i.size 0 ⟨w.heap.size, 0, none⟩ 0 0 [] (by simp) (fun j u hj => by simp at hj)) (.slice (some ⟨b, off, none⟩) 4 cap) 4 _ hsrc (by decide) (by decide) (by rw [hb16]; decide)
  simp only [List.nil_append, Nat.zero_add] at hap
  obtain ⟨cp, hcp⟩ : ∃ c, c = grownCap (w.alloc (.cells #[] 25)) 4 0 25 := ⟨_, rfl⟩
  rw [← hcp] at hap
  clear hcp hsrc hI s0 s1 s2 s3 s4 s5 s6 s7
  obtain ⟨cells, hcells⟩ : ∃ x : Array Value, x = ([.int .i64 (lo 0), .int .i64 (hi 0), .int .i64 (lo 1), .int .i64 (hi 1), .int .i64 (lo 2), .int .i64 (hi 2), .int .i64 (lo 3), .int .i64 (hi 3)] : List Value).toArray ++ Builtin.zeroCells (Value.cells (.agg #[.int .i64 0, .int .i64 0])) (cp - 4) := ⟨_, rfl⟩
  rw [← hcells] at hap
  have hget : ∀ j v, ([.int .i64 (lo 0), .int .i64 (hi 0), .int .i64 (lo 1), .int .i64 (hi 1), .int .i64 (lo 2), .int .i64 (hi 2), .int .i64 (lo 3), .int .i64 (hi 3)] : List Value)[j]? = some v → cells[j]? = some v := fun j v hj => by
    rw [hcells, Array.getElem?_append_left (by simp; have := (List.getElem?_eq_some_iff.1 hj).1; simpa using this)]
    simpa using hj
  clear hcells
  have hk : Below w.heap.size w ((w.alloc (.cells #[] 25)).drew.alloc (.cells cells 25)) := (b0.drew).alloc (by simp) _
  have hnil : ∀ W, (binOp .eql 23 (.slice (some ⟨b, off, none⟩) 4 cap) (.slice none 0 0)).run Try.prog W = .ok (.bool false) W := fun W => Lib.run_eql_slice_nil W _ _ _ _ _ _ _ Try.underlying23
  go_enter Try.func48, Try.ntmps48
  go_wp2_with (at_builtin; refine wpList_append_run rfl (.tmp 5) (.tmp 6) 23 23 rfl _ _ _ _ rfl rfl hap ?_)
  go_ret
  have hc : ∀ j v, ([.int .i64 (lo 0), .int .i64 (hi 0), .int .i64 (lo 1), .int .i64 (hi 1), .int .i64 (lo 2), .int .i64 (hi 2), .int .i64 (lo 3), .int .i64 (hi 3)] : List Value)[j]? = some v → ((w.alloc (.cells #[] 25)).drew.alloc (.cells cells 25)).cell? ⟨w.heap.size + 1, j, none⟩ = some v := fun j v hj => by
    have e : w.heap.size + 1 = (w.alloc (.cells #[] 25)).drew.heap.size := by simp
    rw [e]
    unfold World.cell?
    rw [heap_alloc_new]
    simpa using hget j v hj
  have hf : ∀ i, ((w.alloc (.cells #[] 25)).drew.alloc (.cells cells 25)).frozen? ⟨w.heap.size + 1, i, none⟩ = false := fun i => by
    have e : w.heap.size + 1 = (w.alloc (.cells #[] 25)).drew.heap.size := by simp
    rw [e]
    exact World.frozen?_alloc_new _ _ _ _
  refine ⟨w.heap.size + 1, cp, rfl, ⟨fun _ => by omega, fun _ => hf, ⟨fun _ => rfl, fun _ => by simp, fun k hk => ?_, fun k hk => ?_⟩⟩, hk⟩
  · rcases (show k = 0 ∨ k = 1 ∨ k = 2 ∨ k = 3 by omega) with rfl | rfl | rfl | rfl
    · exact hc 0 _ rfl
    · exact hc 2 _ rfl
    · exact hc 4 _ rfl
    · exact hc 6 _ rfl
  · rcases (show k = 0 ∨ k = 1 ∨ k = 2 ∨ k = 3 by omega) with rfl | rfl | rfl | rfl
    · exact hc 1 _ rfl
    · exact hc 3 _ rfl
    · exact hc 5 _ rfl
    · exact hc 7 _ rfl
end Go.Proofs.Ytiehokibfdaleaa
namespace Go.Proofs.Ytiehokibfdaleaa
open Go.ChangeShapes Go.WideShapes Go.ChangeAt Go.RowKit
set_option linter.unusedVariables false

set_option maxRecDepth 10000 in
set_option maxHeartbeats 4000000 in
theorem numsN (q : Nat) (hq : 1 ≤ q ∧ q ≤ 100) (R : Nat) (a : Option Addr) (m c : Nat) (z : Nat → Int) (p : Nat) (w : World) (h : Rd w R a m c z p) (hp : p < 700000) :
    Calls Try.prog 33 #[.pointer (some ⟨R, 0, none⟩), .int .i64 q] w fun e w' => ∃ v p', e = .returned v ∧ ListAt w.heap.size q v w' ∧ p' ≤ p + 300 ∧ Rd w' R a m c z p' ∧ w.grownBy w' (some R) := by
  obtain ⟨i0, hi, hz0, hz1, hz2⟩ := info_parts infoIntL
  have hRs := h.size
  go_enter Try.func33, Try.ntmps33
  go_wp2_with fail
  have rd0 := h.kept (World.grownBy_alloc w (.cells #[] 3) none) (by simp)
  have own0 : Owns w.heap.size 3 (.slice (some ⟨w.heap.size, 0, none⟩) 0 0) [] (w.alloc (.cells #[] 3)) := by
    refine ⟨rfl, .inr ⟨w.heap.size, 0, #[], rfl, Nat.le_refl _, by show (w.heap.push (.cells #[] 3))[w.heap.size]? = some _; simp, Nat.le_refl _, by simp [maxLen], rfl, rfl⟩⟩
  have gr0 : w.grownBy (w.alloc (.cells #[] 3)) (some R) := World.grownBy_alloc _ _ _
  clear h
  go_loopw [5, 6] (fun v i W => ∃ (k : Nat) (zs : List Int) (p' : Nat), k ≤ q ∧ i = .int .i64 k ∧ zs.length = k ∧ Inp zs ∧ Owns w.heap.size 3 v zs W ∧ p' ≤ p + 3 * k ∧ Rd W R a m c z p' ∧ w.grownBy W (some R)) (fun _ i _ => q - (intOf i).toNat)
  case atStart => exact ⟨0, [], p, by omega, rfl, rfl, (fun _ h => by cases h), own0, by omega, rd0, gr0⟩
  case round =>
    obtain ⟨k, zs, p1, hk, rfl, hlen, hin, own, hp1, rd, gr⟩ := hrel
    clear rd0 own0 gr0
    by_cases hlt : k < q
    · have t1 : (k : Int) < (q : Int) := by omega
      go_wp2_with fail
      refine (numS R a m c z p1 _ rd (by omega)).mono ?_
      rintro e w2 ⟨x, p2, hx1, hx2, rfl, hp2, h2, g2⟩
      have hB : w.heap.size ≤ w2.heap.size := Nat.le_trans gr.size g2.size
      have own2 : Owns w.heap.size 3 u5 zs (w2.alloc (.cells #[.int .i64 x] 3)) := (Owns.reader own hRs g2).alloc _
      have hl : zs.length ≤ 100 := by omega
      go_wp2_with (at_builtin; refine wpList_append_own _ rfl (.tmp 13) (.tmp 16) 35 rfl w.heap.size 3 i0 (.int .i64 0) 1 8 Try.underlying35 hi hz0 hz1 hz2 rfl (by decide) _ _ _ rfl own2 ⟨w2.heap.size, 0, none⟩ 1 1 [.int .i64 x] rfl rfl (one_cells (by simp)) (by simp [Value.oneCell']) (by simp [maxLen]; omega) (by omega) (by simp; omega) ?_)
      intro v' w' o' g' n'
      have O' : Owns w.heap.size 3 v' (zs ++ [x]) w' := by unfold Owns; simpa [hlen] using o'
      have ob : ∀ k, u5.ownBlock = some k → w.heap.size ≤ k := fun k hk => (World.ownsRow.lt own2 k hk).1
      have r' : Rd w' R a m c z p2 := (h2.kept (World.grownBy_alloc _ _ none) (by simp)).kept g' (fun k hk => by have := ob k hk; omega)
      have gw' : w.grownBy w' (some R) := grown_own (grown_trans (grown_trans gr g2) (World.grownBy_alloc _ _ _)) g' ob
      have hin' : Inp (zs ++ [x]) := by
        intro y hy
        rcases List.mem_append.1 hy with hy | hy
        · exact hin y hy
        · simp at hy; subst hy; exact ⟨hx1, hx2⟩
      clear o' g' n' own own2 ob h2 g2 rd gr hin
      go_wp2_with fail
      go_roundw
      case rel => exact ⟨k + 1, zs ++ [x], p2, by omega, by go_num, by simp; omega, hin', O', by omega, r', gw'⟩
      case measure => simp [intOf]; omega
    · obtain rfl : k = q := by omega
      obtain ⟨g, cap, hv, o1, o2, o3, o4, o5⟩ := own.form (by intro h; rw [h] at hlen; simp at hlen; omega)
      rw [hlen] at o3 o4 hv
      subst hv
      go_wp2_with fail
      go_ret
      exact ⟨_, p1, rfl, ⟨g, cap, zs, rfl, o4, o1, o2, hlen, hin, o3⟩, by omega, rd, gr⟩
theorem Owns.keep {B : Nat} {e : TypeId} {v : Value} {zs : List Int} {W W' : World} (h : Owns B e v zs W) (hb : ∀ g, v.ownBlock = some g → W'.heap[g]? = W.heap[g]?) : Owns B e v zs W' := by
  refine ⟨h.1, ?_⟩
  rcases h.2 with h2 | ⟨b, cap, cur, h1, h2, h3, h4⟩
  · exact .inl h2
  · exact .inr ⟨b, cap, cur, h1, h2, (hb b (by rw [h1]; rfl)).trans h3, h4⟩
theorem Owns.next {B : Nat} {e : TypeId} {v : Value} {zs : List Int} {W W' : World} (h : Owns B e v zs W) (g : W.grownBy W' none) : Owns B e v zs W' :=
  h.keep (fun k hk => g.block k (World.ownsRow.lt h k hk).2 (by simp))
theorem grown_any {W W' : World} (g : W.grownBy W' none) (R : Nat) : W.grownBy W' (some R) := ⟨g.os, g.tape, g.output, g.size, fun k hk _ => g.block k hk (by simp)⟩
theorem own_ne {B T2 : Nat} {e t : TypeId} {v : Value} {zs : List Int} {W : World} (h : Owns B e v zs W) (hz : zs ≠ []) (hE : W.heap[T2]? = some (.cells #[] t (0, 0))) : v.ownBlock ≠ some T2 := by
  obtain ⟨g, cap, rfl, _, _, h3, _⟩ := h.form hz
  intro hb
  have : g = T2 := by simpa [Value.ownBlock] using hb
  subst this
  have hc := h3 0 (by cases zs with | nil => exact absurd rfl hz | cons _ _ => simp)
  unfold World.cell? at hc
  rw [hE] at hc
  simp at hc
/-- An append to an empty list without room: the list is new memory. -/
theorem append_first (T2 g : Nat) (x : Int) (W : World) (hc : W.cell? ⟨g, 0, none⟩ = some (.int .i64 x)) (hE : W.heap[T2]? = some (.cells #[] 3 (0, 0))) :
    ∃ (cp : Nat) (w' : World), (∀ ty, (Builtin.append_ #[35, 35] ty #[.slice (some ⟨T2, 0, none⟩) 0 0, .slice (some ⟨g, 0, none⟩) 1 1]).run Try.prog W = .ok (.slice (some ⟨W.heap.size, 0, none⟩) 1 cp) w') ∧ Owns W.heap.size 3 (.slice (some ⟨W.heap.size, 0, none⟩) 1 cp) [x] w' ∧ W.grownBy w' none := by
  obtain ⟨i, hi0, hz, hs1, hb8⟩ := info_parts infoIntL
  have hT : T2 < W.heap.size := (Array.getElem?_eq_some_iff.1 hE).1
  have own0 : Owns T2 3 (.slice (some ⟨T2, 0, none⟩) 0 0) [] W := ⟨rfl, .inr ⟨T2, 0, #[], rfl, Nat.le_refl _, hE, Nat.le_refl _, by simp [maxLen], rfl, rfl⟩⟩
  have hsrc : Src Try.prog i.size 35 (.slice (some ⟨g, 0, none⟩) 1 1) 1 [.int .i64 x] W := by
    rw [hs1]
    exact Src.ofSlice _ Try.underlying35 ⟨g, 0, none⟩ 1 1 [.int .i64 x] rfl (one_cells hc) (by simp [Value.oneCell'])
  have hap := fun ty => run_append_grow_src (P := Try.prog) W 35 35 ty 3 i _ Try.underlying35 hi0 hz (some ⟨T2, 0, none⟩) 0 0 []
    (run_firstCells_some _ i.size 0 ⟨T2, 0, none⟩ 0 0 [] (by simp) (fun j u hj => by simp at hj)) (.slice (some ⟨g, 0, none⟩) 1 1) 1 _ hsrc (by decide) (by decide) (by rw [hb8]; decide)
  simp only [List.nil_append, Nat.zero_add] at hap
  obtain ⟨v', w', hrun, o', g', _⟩ := run_append_own (P := Try.prog) W T2 35 0 3 i (.int .i64 0) 1 8 Try.underlying35 hi0 hz hs1 hb8 rfl (by decide) (.slice (some ⟨T2, 0, none⟩) 0 0) 0 [] own0 ⟨g, 0, none⟩ 1 1 [.int .i64 x] rfl (one_cells hc) (by simp [Value.oneCell']) (by simp [maxLen]) (by omega) (by omega)
  have e := hrun.symm.trans (hap 0)
  injection e with e1 e2
  subst e1 e2
  refine ⟨_, _, hap, ?_, ?_⟩
  · have o2 : Owns T2 3 _ [x] _ := o'
    refine ⟨o2.1, ?_⟩
    rcases o2.2 with h2 | ⟨b, cap, cur, h1, h2, h3⟩
    · exact absurd h2.1 (by simp)
    · injection h1 with h1 _ h1c
      injection h1 with h1
      injection h1 with h1 _ _
      subst h1 h1c
      exact .inr ⟨_, _, cur, rfl, Nat.le_refl _, h3⟩
  · exact grown_trans (grown_drew _ _) (World.grownBy_alloc _ _ _)
/-- The second list as it grows: the first empty one, or a list of its own. -/
def Grw (T2 N2 k : Nat) (v : Value) (ys : List Int) (W : World) : Prop := (k = 0 ∧ v = .slice (some ⟨T2, 0, none⟩) 0 0 ∧ W.heap[T2]? = some (.cells #[] 3 (0, 0))) ∨ (0 < k ∧ Owns N2 3 v ys W)
/-- Variables and cells were drawn: two lists of their own, apart from each other. -/
def DPoint (R : Nat) (a : Option Addr) (m c : Nat) (z : Nat → Int) (p : Nat) (u : World) (e : Ending) (w' : World) : Prop := ∃ (v1 v2 : Value) (zs ys : List Int) (N2 p' : Nat), e = .returned (.tuple #[v1, v2]) ∧ zs.length = 4 ∧ ys.length = 4 ∧ Inp zs ∧ Inp ys ∧ Owns u.heap.size 3 v1 zs w' ∧ Owns N2 3 v2 ys w' ∧ u.heap.size ≤ N2 ∧ (∀ g, v1.ownBlock = some g → g < N2) ∧ p' ≤ p + 400 ∧ Rd w' R a m c z p' ∧ u.grownBy w' (some R)

set_option maxRecDepth 10000 in
set_option maxHeartbeats 16000000 in
theorem pointD (R : Nat) (a : Option Addr) (m c : Nat) (z : Nat → Int) (p : Nat) (on : Bool) (aa : Option Addr) (g off n cp : Nat) (zl zh : Nat → Int) (sx sy : Int) (u : World) (h : Rd u R a m c z p) (hp : p < 300000) (hC : BndsAt aa g off n zl zh u) (hgR : 0 < n → g ≠ R) (hok : absOk on n zl zh sx sy = true) :
    Calls Try.prog 34 #[.pointer (some ⟨R, 0, none⟩), .agg #[.bool on, .slice aa n cp, .int .i64 sx, .int .i64 sy]] u (DPoint R a m c z p u) := by
  obtain ⟨i0, hi, hz0, hz1, hz2⟩ := info_parts infoIntL
  have hRu := h.size
  obtain ⟨w, hw⟩ : ∃ w, w = u.alloc (.cells #[.bool on, .slice aa n cp, .int .i64 sx, .int .i64 sy] 27) := ⟨_, rfl⟩
  have gu : u.grownBy w (some R) := hw ▸ World.grownBy_alloc _ _ _
  have hws : w.heap.size = u.heap.size + 1 := by rw [hw]; simp
  have x0 : w.cell? ⟨u.heap.size, 0, none⟩ = some (.bool on) := by rw [hw]; simp [go_sem]
  have x1 : w.cell? ⟨u.heap.size, 1, none⟩ = some (.slice aa n cp) := by rw [hw]; simp [go_sem]
  have x2 : w.cell? ⟨u.heap.size, 2, none⟩ = some (.int .i64 sx) := by rw [hw]; simp [go_sem]
  have x3 : w.cell? ⟨u.heap.size, 3, none⟩ = some (.int .i64 sy) := by rw [hw]; simp [go_sem]
  have hCw : BndsAt aa g off n zl zh w := hC.next (by rw [hw]; exact (Below.refl _ _).alloc (Nat.le_refl _) _)
  have hw0 : Rd w R a m c z p := h.kept (hw ▸ World.grownBy_alloc _ _ none) (by simp)
  have hgu : 0 < n → g < u.heap.size := hC.lt
  have hwS : Hid (w = u.alloc (.cells #[.bool on, .slice aa n cp, .int .i64 sx, .int .i64 sy] 27)) := hw
  clear h hC hw
  go_enter Try.func34, Try.ntmps34
  go_upto_region 3 with fail
  rw [← hwS.out]
  obtain ⟨X, hX⟩ : ∃ X, X = u.heap.size := ⟨_, rfl⟩
  rw [← hX] at x0 x1 x2 x3
  have hE0 : ((w.alloc (.cells #[] 3)).alloc (.cells #[] 3)).heap[w.heap.size + 1]? = some (.cells #[] 3 (0, 0)) := by
    have := heap_alloc_new (w.alloc (.cells #[] 3)) (.cells #[] 3)
    simpa using this
  have own0 : Owns w.heap.size 3 (.slice (some ⟨w.heap.size, 0, none⟩) 0 0) [] ((w.alloc (.cells #[] 3)).alloc (.cells #[] 3)) :=
    Owns.alloc ⟨rfl, .inr ⟨w.heap.size, 0, #[], rfl, Nat.le_refl _, heap_alloc_new _ _, Nat.le_refl _, by simp [maxLen], rfl, rfl⟩⟩ _
  have rd0 : Rd ((w.alloc (.cells #[] 3)).alloc (.cells #[] 3)) R a m c z p := (hw0.kept (World.grownBy_alloc _ _ none) (by simp)).kept (World.grownBy_alloc _ _ none) (by simp)
  have gr0 : w.grownBy ((w.alloc (.cells #[] 3)).alloc (.cells #[] 3)) (some R) := grown_trans (World.grownBy_alloc _ _ _) (World.grownBy_alloc _ _ _)
  have ne0 : (Value.slice (some ⟨w.heap.size, 0, none⟩) 0 0).ownBlock ≠ some (w.heap.size + 1) := by simp [Value.ownBlock]
  rw [hX.symm.trans rfl] at hgu
  have hXw : X < w.heap.size := by omega
  have hXR : X ≠ R := by omega
  have hRs : R < w.heap.size := by omega
  obtain ⟨T2, hT2⟩ : ∃ T, T = w.heap.size + 1 := ⟨_, rfl⟩
  have e1 : u.heap.size + 1 = w.heap.size := by omega
  rw [e1, ← hT2, ← hX]
  rw [← hT2] at hE0 ne0
  have hTR : T2 ≠ R := by omega
  have hXh : Hid (X = u.heap.size) := hX
  have hT2h : Hid (T2 = w.heap.size + 1) := hT2
  have hgw0 : 0 < n → g < w.heap.size := fun h => by have := hgu h; omega
  clear hws e1 hX hT2 hwS hw0 hRu hgu
  cases on
  case true =>
    obtain ⟨rfl, c1, c2, c3, hb⟩ := absOk_on hok rfl
    obtain rfl := hCw.at_ (by omega)
    replace hgR := hgR (by omega)
    have hgw := hgw0 (by omega)
    clear hok hgw0
    go_wp2_with fail
    go_loopw [6, 8] (fun v i W => ∃ (k : Nat) (zs : List Int) (p' : Nat), k ≤ 4 ∧ i = .int .i64 k ∧ zs.length = k ∧ Inp zs ∧ Owns w.heap.size 3 v zs W ∧ v.ownBlock ≠ some T2 ∧ W.heap[T2]? = some (.cells #[] 3 (0, 0)) ∧ p' ≤ p + 20 * k ∧ Rd W R a m c z p' ∧ w.grownBy W (some R)) (fun _ i _ => 4 - (intOf i).toNat)
    case atStart => exact ⟨0, [], p, by omega, rfl, rfl, (fun _ h => by cases h), own0, ne0, hE0, by omega, rd0, gr0⟩
    case round =>
      obtain ⟨k, zs, p1, hk, rfl, hlen, hin, own, hne, hE, hp1, rd, gr⟩ := hrel
      clear rd0 own0 gr0 ne0 hE0
      have y0 := ((gcell gr).1 X 0 hXw hXR).trans x0
      by_cases hlt : k < 4
      · have t1 : (k : Int) < 4 := by omega
        have t2 : (0 : Int) ≤ (k : Int) := by omega
        have t3 : ((k : Int)).toNat = k := by omega
        obtain ⟨b1, b2, b3⟩ := hb k hlt
        have y1 := ((gcell gr).1 X 1 hXw hXR).trans x1
        have y4 := ((gcell gr).1 g (off + k * 2) hgw hgR).trans (hCw.lo k hlt)
        have y5 := ((gcell gr).1 g (off + k * 2 + 1) hgw hgR).trans (hCw.hi k hlt)
        go_wp2_with fail
        refine (ofD R a m c z p1 (zl k) (zh k) _ rd (by omega) b1 b2 b3).mono ?_
        rintro e w2 ⟨x, p2, hx1, hx2, rfl, hp2, h2, g2⟩
        have hB : w.heap.size ≤ w2.heap.size := Nat.le_trans gr.size g2.size
        have own2 : Owns w.heap.size 3 u6 zs (w2.alloc (.cells #[.int .i64 x] 3)) := (Owns.reader own hRs g2).alloc _
        have hl : zs.length ≤ 4 := by omega
        clear y0
        go_wp2_with (at_builtin; refine wpList_append_own _ rfl (.tmp 18) (.tmp 26) 35 rfl w.heap.size 3 i0 (.int .i64 0) 1 8 Try.underlying35 hi hz0 hz1 hz2 rfl (by decide) _ _ _ rfl own2 ⟨w2.heap.size, 0, none⟩ 1 1 [.int .i64 x] rfl rfl (one_cells (by simp)) (by simp [Value.oneCell']) (by simp [maxLen]; omega) (by omega) (by simp; omega) ?_)
        intro v' w' o' g' n'
        have O' : Owns w.heap.size 3 v' (zs ++ [x]) w' := by unfold Owns; simpa [hlen] using o'
        have ob : ∀ k, u6.ownBlock = some k → w.heap.size ≤ k := fun k hk => (World.ownsRow.lt own2 k hk).1
        have r' : Rd w' R a m c z p2 := (h2.kept (World.grownBy_alloc _ _ none) (by simp)).kept g' (fun k hk => by have := ob k hk; omega)
        have gw' : w.grownBy w' (some R) := grown_own (grown_trans (grown_trans gr g2) (World.grownBy_alloc _ _ _)) g' ob
        have hE' : w'.heap[T2]? = some (.cells #[] 3 (0, 0)) := by
          have l1 : T2 < wr.heap.size := (Array.getElem?_eq_some_iff.1 hE).1
          have l2 := Nat.lt_of_lt_of_le l1 g2.size
          exact (g'.block T2 (by simp; omega) (fun e => hne e.symm)).trans ((Below.heap_alloc _ _ _ l2).trans ((g2.block T2 l1 (fun e => hTR (by injection e))).trans hE))
        have hne' : v'.ownBlock ≠ some T2 := own_ne O' (by simp) hE'
        have hin' : Inp (zs ++ [x]) := by
          intro y hy
          rcases List.mem_append.1 hy with hy | hy
          · exact hin y hy
          · simp at hy; subst hy; exact ⟨by omega, by omega⟩
        clear o' g' n' own own2 ob h2 g2 rd gr hin hE hne
        go_wp2_with fail
        go_roundw
        case rel => exact ⟨k + 1, zs ++ [x], p2, by omega, by go_num, by simp; omega, hin', O', hne', hE', by omega, r', gw'⟩
        case measure => simp [intOf]; omega
      · obtain rfl : k = 4 := by omega
        obtain ⟨g1, cap1, hv, o1, o2, o3, o4, o5⟩ := own.form (by intro h; rw [h] at hlen; simp at hlen)
        rw [hlen] at o3 o4 hv
        subst hv
        clear hk o1 o3 o4 o5
        obtain ⟨N2, hN2⟩ : ∃ N, N = wr.heap.size := ⟨_, rfl⟩
        have hg1 : g1 < N2 := by omega
        have hwN : w.heap.size ≤ N2 := by have := gr.size; omega
        have hRN : R < N2 := by omega
        have hT2 : T2 < N2 := by have := (Array.getElem?_eq_some_iff.1 hE).1; omega
        have hN0 : N2 ≤ wr.heap.size := by omega
        clear hN2
        go_wp2_with fail
        rw [show ((4 : Nat) : Int) = 4 from rfl]
        go_loopw [7, 9] (fun v i W => ∃ (k : Nat) (ys : List Int) (p' : Nat), k ≤ 4 ∧ i = .int .i64 k ∧ ys.length = k ∧ Inp ys ∧ Grw T2 N2 k v ys W ∧ Owns w.heap.size 3 (.slice (some ⟨g1, 0, none⟩) 4 cap1) zs W ∧ N2 ≤ W.heap.size ∧ p' ≤ p + 80 + 20 * k ∧ Rd W R a m c z p' ∧ w.grownBy W (some R)) (fun _ i _ => 4 - (intOf i).toNat)
        case atStart => exact ⟨0, [], p1, by omega, rfl, rfl, (fun _ h => by cases h), .inl ⟨rfl, rfl, hE⟩, own, hN0, by omega, rd, gr⟩
        case round =>
          clear own rd gr hN0 y0 hE hlt hp1 hne
          obtain ⟨k, ys, p2, hk, rfl, hlen2, hin2, hst, own, hN0, hp2, rd, gr⟩ := hrel
          have y0 := ((gcell gr).1 X 0 hXw hXR).trans x0
          by_cases hlt : k < 4
          · have t1 : (k : Int) < 4 := by omega
            have y2 := ((gcell gr).1 X 2 hXw hXR).trans x2
            have y3 := ((gcell gr).1 X 3 hXw hXR).trans x3
            go_wp2_with fail
            refine (ofD R a m c z p2 sx sy _ rd (by omega) c1 c2 c3).mono ?_
            rintro e w2 ⟨x, p3, hx1, hx2, rfl, hp3, h2, g2⟩
            have hin' : Inp (ys ++ [x]) := by
              intro y hy
              rcases List.mem_append.1 hy with hy | hy
              · exact hin2 y hy
              · simp at hy; subst hy; exact ⟨by omega, by omega⟩
            have gA := grown_trans (grown_trans gr g2) (World.grownBy_alloc w2 (.cells #[.int .i64 x] 3) (some R))
            have own1 : Owns w.heap.size 3 (.slice (some ⟨g1, 0, none⟩) 4 cap1) zs (w2.alloc (.cells #[.int .i64 x] 3)) := (Owns.reader own hRs g2).alloc _
            have rA : Rd (w2.alloc (.cells #[.int .i64 x] 3)) R a m c z p3 := h2.kept (World.grownBy_alloc _ _ none) (by simp)
            have hN1 : N2 ≤ w2.heap.size := Nat.le_trans hN0 g2.size
            clear y0
            rcases hst with ⟨rfl, rfl, hE⟩ | ⟨h0, own2⟩
            · have l1 : T2 < wr.heap.size := (Array.getElem?_eq_some_iff.1 hE).1
              have hEA : (w2.alloc (.cells #[.int .i64 x] 3)).heap[T2]? = some (.cells #[] 3 (0, 0)) := (Below.heap_alloc _ _ _ (Nat.lt_of_lt_of_le l1 g2.size)).trans ((g2.block T2 l1 (fun e => hTR (by injection e))).trans hE)
              obtain rfl : ys = [] := List.eq_nil_of_length_eq_zero hlen2
              obtain ⟨cp, w', hrun, o', g'⟩ := append_first T2 w2.heap.size x (w2.alloc (.cells #[.int .i64 x] 3)) (by simp [go_sem]) hEA
              have r' := rA.kept g' (by simp)
              have own' := own1.next g'
              have gw' := grown_trans gA (grown_any g' R)
              have hN' : N2 ≤ w'.heap.size := by have := g'.size; simp at this; omega
              have O' : Owns N2 3 (.slice (some ⟨(w2.alloc (.cells #[.int .i64 x] 3)).heap.size, 0, none⟩) 1 cp) [x] w' := o'.weaken (by simp; omega)
              obtain ⟨q, hq⟩ : ∃ q, q = Value.slice (some ⟨(w2.alloc (.cells #[.int .i64 x] 3)).heap.size, 0, none⟩) 1 cp := ⟨_, rfl⟩
              rw [← hq] at O' hrun
              clear hE hEA l1 own1 own rA gA gr g2 h2 rd g' o' hq
              go_wp2_with (at_builtin; refine wpList_append_run rfl (.tmp 39) (.tmp 44) 35 35 rfl _ _ _ _ rfl rfl hrun ?_)
              go_roundw
              case rel => exact ⟨1, [x], p3, by omega, by go_num, rfl, hin', .inr ⟨by omega, O'⟩, own', hN', by omega, r', gw'⟩
              case measure => simp [intOf]
            · have own3 : Owns N2 3 u7 ys (w2.alloc (.cells #[.int .i64 x] 3)) := (Owns.reader own2 hRN g2).alloc _
              have hl : ys.length ≤ 4 := by omega
              go_wp2_with (at_builtin; refine wpList_append_own _ rfl (.tmp 39) (.tmp 44) 35 rfl N2 3 i0 (.int .i64 0) 1 8 Try.underlying35 hi hz0 hz1 hz2 rfl (by decide) _ _ _ rfl own3 ⟨w2.heap.size, 0, none⟩ 1 1 [.int .i64 x] rfl rfl (one_cells (by simp)) (by simp [Value.oneCell']) (by simp [maxLen]; omega) (by omega) (by simp; omega) ?_)
              intro v' w' o' g' n'
              have O' : Owns N2 3 v' (ys ++ [x]) w' := by unfold Owns; simpa [hlen2] using o'
              have ob : ∀ k, u7.ownBlock = some k → N2 ≤ k := fun k hk => (World.ownsRow.lt own3 k hk).1
              have r' : Rd w' R a m c z p3 := rA.kept g' (fun k hk => by have := ob k hk; omega)
              have gw' : w.grownBy w' (some R) := grown_own gA g' (fun k hk => by have := ob k hk; omega)
              have own' : Owns w.heap.size 3 (.slice (some ⟨g1, 0, none⟩) 4 cap1) zs w' := own1.keep (fun g hg => g'.block g (World.ownsRow.lt own1 g hg).2 (fun e => by have := ob g e.symm; simp [Value.ownBlock] at hg; omega))
              have hN' : N2 ≤ w'.heap.size := by have := g'.size; simp at this; omega
              clear o' g' n' own own2 own1 own3 ob h2 g2 rd gr rA gA
              go_wp2_with fail
              go_roundw
              case rel => exact ⟨k + 1, ys ++ [x], p3, by omega, by go_num, by simp; omega, hin', .inr ⟨by omega, O'⟩, own', hN', by omega, r', gw'⟩
              case measure => simp [intOf]; omega
          · obtain rfl : k = 4 := by omega
            have own2 : Owns N2 3 u7 ys wr := by
              rcases hst with ⟨h, _⟩ | ⟨_, h⟩
              · omega
              · exact h
            clear y0 hst
            obtain ⟨g2, cap2, hv2, _⟩ := own2.form (by intro h; rw [h] at hlen2; simp at hlen2)
            rw [hlen2] at hv2
            subst hv2
            go_wp2_with fail
            exact bodyPost_ret (v := .tuple #[.slice (some ⟨g1, 0, none⟩) 4 cap1, .slice (some ⟨g2, 0, none⟩) 4 cap2]) (by simp [results, Try.results34, go_sem]) rfl ⟨_, _, zs, ys, N2, p2, rfl, hlen, hlen2, hin, hin2, own.weaken (by have := gu.size; omega), own2, by have := gu.size; omega, (fun g hg => by simp [Value.ownBlock] at hg; omega), by omega, rd, grown_trans gu gr⟩
  case false =>
    clear hok hgw0 hgR hCw
    go_wp2_with fail
    go_loopw [6, 8] (fun v i W => ∃ (k : Nat) (zs : List Int) (p' : Nat), k ≤ 4 ∧ i = .int .i64 k ∧ zs.length = k ∧ Inp zs ∧ Owns w.heap.size 3 v zs W ∧ v.ownBlock ≠ some T2 ∧ W.heap[T2]? = some (.cells #[] 3 (0, 0)) ∧ p' ≤ p + 20 * k ∧ Rd W R a m c z p' ∧ w.grownBy W (some R)) (fun _ i _ => 4 - (intOf i).toNat)
    case atStart => exact ⟨0, [], p, by omega, rfl, rfl, (fun _ h => by cases h), own0, ne0, hE0, by omega, rd0, gr0⟩
    case round =>
      obtain ⟨k, zs, p1, hk, rfl, hlen, hin, own, hne, hE, hp1, rd, gr⟩ := hrel
      clear rd0 own0 gr0 ne0 hE0
      have y0 := ((gcell gr).1 X 0 hXw hXR).trans x0
      by_cases hlt : k < 4
      · have t1 : (k : Int) < 4 := by omega
        have t2 : (0 : Int) ≤ (k : Int) := by omega
        have t3 : ((k : Int)).toNat = k := by omega
        go_wp2_with fail
        refine (numS R a m c z p1 _ rd (by omega)).mono ?_
        rintro e w2 ⟨x, p2, hx1, hx2, rfl, hp2, h2, g2⟩
        have hB : w.heap.size ≤ w2.heap.size := Nat.le_trans gr.size g2.size
        have own2 : Owns w.heap.size 3 u6 zs (w2.alloc (.cells #[.int .i64 x] 3)) := (Owns.reader own hRs g2).alloc _
        have hl : zs.length ≤ 4 := by omega
        clear y0
        go_wp2_with (at_builtin; refine wpList_append_own _ rfl (.tmp 28) (.tmp 31) 35 rfl w.heap.size 3 i0 (.int .i64 0) 1 8 Try.underlying35 hi hz0 hz1 hz2 rfl (by decide) _ _ _ rfl own2 ⟨w2.heap.size, 0, none⟩ 1 1 [.int .i64 x] rfl rfl (one_cells (by simp)) (by simp [Value.oneCell']) (by simp [maxLen]; omega) (by omega) (by simp; omega) ?_)
        intro v' w' o' g' n'
        have O' : Owns w.heap.size 3 v' (zs ++ [x]) w' := by unfold Owns; simpa [hlen] using o'
        have ob : ∀ k, u6.ownBlock = some k → w.heap.size ≤ k := fun k hk => (World.ownsRow.lt own2 k hk).1
        have r' : Rd w' R a m c z p2 := (h2.kept (World.grownBy_alloc _ _ none) (by simp)).kept g' (fun k hk => by have := ob k hk; omega)
        have gw' : w.grownBy w' (some R) := grown_own (grown_trans (grown_trans gr g2) (World.grownBy_alloc _ _ _)) g' ob
        have hE' : w'.heap[T2]? = some (.cells #[] 3 (0, 0)) := by
          have l1 : T2 < wr.heap.size := (Array.getElem?_eq_some_iff.1 hE).1
          have l2 := Nat.lt_of_lt_of_le l1 g2.size
          exact (g'.block T2 (by simp; omega) (fun e => hne e.symm)).trans ((Below.heap_alloc _ _ _ l2).trans ((g2.block T2 l1 (fun e => hTR (by injection e))).trans hE))
        have hne' : v'.ownBlock ≠ some T2 := own_ne O' (by simp) hE'
        have hin' : Inp (zs ++ [x]) := by
          intro y hy
          rcases List.mem_append.1 hy with hy | hy
          · exact hin y hy
          · simp at hy; subst hy; exact ⟨hx1, hx2⟩
        clear o' g' n' own own2 ob h2 g2 rd gr hin hE hne
        go_wp2_with fail
        go_roundw
        case rel => exact ⟨k + 1, zs ++ [x], p2, by omega, by go_num, by simp; omega, hin', O', hne', hE', by omega, r', gw'⟩
        case measure => simp [intOf]; omega
      · obtain rfl : k = 4 := by omega
        obtain ⟨g1, cap1, hv, o1, o2, o3, o4, o5⟩ := own.form (by intro h; rw [h] at hlen; simp at hlen)
        rw [hlen] at o3 o4 hv
        subst hv
        clear hk o1 o3 o4 o5
        obtain ⟨N2, hN2⟩ : ∃ N, N = wr.heap.size := ⟨_, rfl⟩
        have hg1 : g1 < N2 := by omega
        have hwN : w.heap.size ≤ N2 := by have := gr.size; omega
        have hRN : R < N2 := by omega
        have hT2 : T2 < N2 := by have := (Array.getElem?_eq_some_iff.1 hE).1; omega
        have hN0 : N2 ≤ wr.heap.size := by omega
        clear hN2
        go_wp2_with fail
        rw [show ((4 : Nat) : Int) = 4 from rfl]
        go_loopw [7, 9] (fun v i W => ∃ (k : Nat) (ys : List Int) (p' : Nat), k ≤ 4 ∧ i = .int .i64 k ∧ ys.length = k ∧ Inp ys ∧ Grw T2 N2 k v ys W ∧ Owns w.heap.size 3 (.slice (some ⟨g1, 0, none⟩) 4 cap1) zs W ∧ N2 ≤ W.heap.size ∧ p' ≤ p + 80 + 20 * k ∧ Rd W R a m c z p' ∧ w.grownBy W (some R)) (fun _ i _ => 4 - (intOf i).toNat)
        case atStart => exact ⟨0, [], p1, by omega, rfl, rfl, (fun _ h => by cases h), .inl ⟨rfl, rfl, hE⟩, own, hN0, by omega, rd, gr⟩
        case round =>
          clear own rd gr hN0 y0 hE hlt hp1 hne
          obtain ⟨k, ys, p2, hk, rfl, hlen2, hin2, hst, own, hN0, hp2, rd, gr⟩ := hrel
          have y0 := ((gcell gr).1 X 0 hXw hXR).trans x0
          by_cases hlt : k < 4
          · have t1 : (k : Int) < 4 := by omega
            go_wp2_with fail
            refine (numS R a m c z p2 _ rd (by omega)).mono ?_
            rintro e w2 ⟨x, p3, hx1, hx2, rfl, hp3, h2, g2⟩
            have hin' : Inp (ys ++ [x]) := by
              intro y hy
              rcases List.mem_append.1 hy with hy | hy
              · exact hin2 y hy
              · simp at hy; subst hy; exact ⟨hx1, hx2⟩
            have gA := grown_trans (grown_trans gr g2) (World.grownBy_alloc w2 (.cells #[.int .i64 x] 3) (some R))
            have own1 : Owns w.heap.size 3 (.slice (some ⟨g1, 0, none⟩) 4 cap1) zs (w2.alloc (.cells #[.int .i64 x] 3)) := (Owns.reader own hRs g2).alloc _
            have rA : Rd (w2.alloc (.cells #[.int .i64 x] 3)) R a m c z p3 := h2.kept (World.grownBy_alloc _ _ none) (by simp)
            have hN1 : N2 ≤ w2.heap.size := Nat.le_trans hN0 g2.size
            clear y0
            rcases hst with ⟨rfl, rfl, hE⟩ | ⟨h0, own2⟩
            · have l1 : T2 < wr.heap.size := (Array.getElem?_eq_some_iff.1 hE).1
              have hEA : (w2.alloc (.cells #[.int .i64 x] 3)).heap[T2]? = some (.cells #[] 3 (0, 0)) := (Below.heap_alloc _ _ _ (Nat.lt_of_lt_of_le l1 g2.size)).trans ((g2.block T2 l1 (fun e => hTR (by injection e))).trans hE)
              obtain rfl : ys = [] := List.eq_nil_of_length_eq_zero hlen2
              obtain ⟨cp, w', hrun, o', g'⟩ := append_first T2 w2.heap.size x (w2.alloc (.cells #[.int .i64 x] 3)) (by simp [go_sem]) hEA
              have r' := rA.kept g' (by simp)
              have own' := own1.next g'
              have gw' := grown_trans gA (grown_any g' R)
              have hN' : N2 ≤ w'.heap.size := by have := g'.size; simp at this; omega
              have O' : Owns N2 3 (.slice (some ⟨(w2.alloc (.cells #[.int .i64 x] 3)).heap.size, 0, none⟩) 1 cp) [x] w' := o'.weaken (by simp; omega)
              obtain ⟨q, hq⟩ : ∃ q, q = Value.slice (some ⟨(w2.alloc (.cells #[.int .i64 x] 3)).heap.size, 0, none⟩) 1 cp := ⟨_, rfl⟩
              rw [← hq] at O' hrun
              clear hE hEA l1 own1 own rA gA gr g2 h2 rd g' o' hq
              go_wp2_with (at_builtin; refine wpList_append_run rfl (.tmp 46) (.tmp 49) 35 35 rfl _ _ _ _ rfl rfl hrun ?_)
              go_roundw
              case rel => exact ⟨1, [x], p3, by omega, by go_num, rfl, hin', .inr ⟨by omega, O'⟩, own', hN', by omega, r', gw'⟩
              case measure => simp [intOf]
            · have own3 : Owns N2 3 u7 ys (w2.alloc (.cells #[.int .i64 x] 3)) := (Owns.reader own2 hRN g2).alloc _
              have hl : ys.length ≤ 4 := by omega
              go_wp2_with (at_builtin; refine wpList_append_own _ rfl (.tmp 46) (.tmp 49) 35 rfl N2 3 i0 (.int .i64 0) 1 8 Try.underlying35 hi hz0 hz1 hz2 rfl (by decide) _ _ _ rfl own3 ⟨w2.heap.size, 0, none⟩ 1 1 [.int .i64 x] rfl rfl (one_cells (by simp)) (by simp [Value.oneCell']) (by simp [maxLen]; omega) (by omega) (by simp; omega) ?_)
              intro v' w' o' g' n'
              have O' : Owns N2 3 v' (ys ++ [x]) w' := by unfold Owns; simpa [hlen2] using o'
              have ob : ∀ k, u7.ownBlock = some k → N2 ≤ k := fun k hk => (World.ownsRow.lt own3 k hk).1
              have r' : Rd w' R a m c z p3 := rA.kept g' (fun k hk => by have := ob k hk; omega)
              have gw' : w.grownBy w' (some R) := grown_own gA g' (fun k hk => by have := ob k hk; omega)
              have own' : Owns w.heap.size 3 (.slice (some ⟨g1, 0, none⟩) 4 cap1) zs w' := own1.keep (fun g hg => g'.block g (World.ownsRow.lt own1 g hg).2 (fun e => by have := ob g e.symm; simp [Value.ownBlock] at hg; omega))
              have hN' : N2 ≤ w'.heap.size := by have := g'.size; simp at this; omega
              clear o' g' n' own own2 own1 own3 ob h2 g2 rd gr rA gA
              go_wp2_with fail
              go_roundw
              case rel => exact ⟨k + 1, ys ++ [x], p3, by omega, by go_num, by simp; omega, hin', .inr ⟨by omega, O'⟩, own', hN', by omega, r', gw'⟩
              case measure => simp [intOf]; omega
          · obtain rfl : k = 4 := by omega
            have own2 : Owns N2 3 u7 ys wr := by
              rcases hst with ⟨h, _⟩ | ⟨_, h⟩
              · omega
              · exact h
            clear y0 hst
            obtain ⟨g2, cap2, hv2, _⟩ := own2.form (by intro h; rw [h] at hlen2; simp at hlen2)
            rw [hlen2] at hv2
            subst hv2
            go_wp2_with fail
            exact bodyPost_ret (v := .tuple #[.slice (some ⟨g1, 0, none⟩) 4 cap1, .slice (some ⟨g2, 0, none⟩) 4 cap2]) (by simp [results, Try.results34, go_sem]) rfl ⟨_, _, zs, ys, N2, p2, rfl, hlen, hlen2, hin, hin2, own.weaken (by have := gu.size; omega), own2, by have := gu.size; omega, (fun g hg => by simp [Value.ownBlock] at hg; omega), by omega, rd, grown_trans gu gr⟩
end Go.Proofs.Ytiehokibfdaleaa
