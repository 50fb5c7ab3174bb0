/- Programs copied, whole. · Lists of ints that a call was handed back: what the laws do with them (compare, mark, look whether the marks are held). · What the laws write into what they handed in or were handed back (marks), and look for again. · Cells that a law marks one by one and looks for again: an address for each mark. · A state that is answered: its list lies in memory of its own. Held against another one, marked, looked for. What copies a list of four bounds; an arrival's set and state. · An arrival's set and state. -/
import Derived.Test.YtiehokibfdaleaaDoorG8
import Derived.Test.YtiehokibfdaleaaDoorG2
import Derived.Test.YtiehokibfdaleaaDoorG1
import Derived.WalkKit
import Derived.ProofKit
import Derived.OpenShut
import Derived.Below
import Derived.Deep.QuietTactic
import Derived.BigQuiet
import Derived.Test.YtiehokibfdaleaaDoorG12
import Derived.Deep.AppendSrc
import Derived.Lib.SliceRun
namespace Go.Proofs.YtiehokibfdaleaaDoor
open Go.ChangeShapes Go.WideShapes Go.ChangeAt Go.RowKit

theorem ProcsAt.set {a : Option Addr} {b off m : Nat} {P : Nat → Proc} {S : Nat → Spot} {W : World} {G o : Nat} {vs : List Value} (h : ProcsAt a b off m P S W) (hne : b ≠ G) (hs : ∀ i, i < m → (S i).b ≠ G) : ProcsAt a b off m P S (setAll G o vs W) :=
  have k : ∀ q, (setAll G o vs W).cell? ⟨b, q, none⟩ = W.cell? ⟨b, q, none⟩ := fun q => setAll_other _ _ _ _ (fun j' _ e => hne (by injection e))
  ⟨h.at_, fun hm => Nat.lt_of_lt_of_le (h.lt hm) (setAll_below (B := 0) (w := W) (Nat.zero_le _) vs o W (Below.refl _ _)).size, fun i hi => (k _).trans (h.lo i hi), fun i hi => (k _).trans (h.hi i hi), fun i hi => (k _).trans (h.code i hi), fun i hi => (h.steps i hi).set (hs i hi)⟩

/-- A copy: each procedure's steps lie in a block of their own, from its beginning on. -/
def Copy (S : Nat → Spot) (P : Nat → Proc) (m : Nat) : Prop := ∀ i, i < m → S i = ⟨some ⟨(S i).b, 0, none⟩, (S i).b, 0, (P i).n⟩
/-- What lies in the copy's list when k procedures are copied. -/
structure Part (w : World) (G m k : Nat) (P : Nat → Proc) (S : Nat → Spot) (W : World) : Prop where
  below : Below w.heap.size w W
  lt : G < W.heap.size
  lo : ∀ i, i < m → W.cell? ⟨G, i * 3, none⟩ = some (.int .i64 (if i < k then (P i).lo else 0))
  hi : ∀ i, i < m → W.cell? ⟨G, i * 3 + 1, none⟩ = some (.int .i64 (if i < k then (P i).hi else 0))
  code : ∀ i, i < m → W.cell? ⟨G, i * 3 + 2, none⟩ = some (if i < k then .slice (S i).a (P i).n (S i).cap else .slice none 0 0)
  free : ∀ i, W.frozen? ⟨G, i, none⟩ = false
  behind : ∀ i, i < k → G < (S i).b
  steps : ∀ i, i < k → CodeAt (S i).a (S i).b (S i).off (P i).n (P i).c W
  copy : Copy S P k
  fcode : ∀ i, i < k → ∀ j, W.frozen? ⟨(S i).b, j, none⟩ = false
  lcode : ∀ i, i < k → (S i).b < W.heap.size
theorem Part.next {w : World} {G m k : Nat} {P : Nat → Proc} {S : Nat → Spot} {W W' : World} (h : Part w G m k P S W) (hb : Below W.heap.size W W') : Part w G m k P S W' :=
  have q : ∀ o, W'.cell? ⟨G, o, none⟩ = W.cell? ⟨G, o, none⟩ := fun o => hb.cell (p := ⟨G, o, none⟩) h.lt
  ⟨below_tr h.below hb, Nat.lt_of_lt_of_le h.lt hb.size, fun i hi => (q _).trans (h.lo i hi), fun i hi => (q _).trans (h.hi i hi), fun i hi => (q _).trans (h.code i hi), fun i => (hb.frozen (p := ⟨G, i, none⟩) h.lt).trans (h.free i), h.behind, fun i hi => (h.steps i hi).next hb, h.copy, fun i hi j => (hb.frozen (p := ⟨(S i).b, j, none⟩) (h.lcode i hi)).trans (h.fcode i hi j), fun i hi => Nat.lt_of_lt_of_le (h.lcode i hi) hb.size⟩
/-- One procedure more. -/
theorem Part.put {w : World} {G m k : Nat} {P : Nat → Proc} {S : Nat → Spot} {W : World} {g : Nat} (hk : k < m) (hw : w.heap.size ≤ G) (h : Part w G m k P S W) (hg : G < g) (hC : CodeAt (some ⟨g, 0, none⟩) g 0 (P k).n (P k).c W) (hfg : ∀ j, W.frozen? ⟨g, j, none⟩ = false) (hlg : g < W.heap.size) :
    Part w G m (k + 1) P (fun i => if i = k then ⟨some ⟨g, 0, none⟩, g, 0, (P k).n⟩ else S i) (setAll G (k * 3) [.int .i64 (P k).lo, .int .i64 (P k).hi, .slice (some ⟨g, 0, none⟩) (P k).n (P k).n] W) := by
  have hsome : ∀ j, j < [(.int .i64 (P k).lo : Value), .int .i64 (P k).hi, .slice (some ⟨g, 0, none⟩) (P k).n (P k).n].length → (W.cell? ⟨G, k * 3 + j, none⟩).isSome = true := fun j hj => by
    rcases (show j = 0 ∨ j = 1 ∨ j = 2 by simp at hj; omega) with rfl | rfl | rfl
    · rw [Nat.add_zero, h.lo k hk]; rfl
    · rw [h.hi k hk]; rfl
    · rw [h.code k hk]; rfl
  have oth : ∀ i d, i ≠ k → d < 3 → (setAll G (k * 3) [.int .i64 (P k).lo, .int .i64 (P k).hi, .slice (some ⟨g, 0, none⟩) (P k).n (P k).n] W).cell? ⟨G, i * 3 + d, none⟩ = W.cell? ⟨G, i * 3 + d, none⟩ := fun i d hi hd => setAll_other _ _ _ _ (fun j hj e => by
    have hj' : j < 3 := by simpa using hj
    have : i * 3 + d = k * 3 + j := by injection e
    omega)
  refine ⟨setAll_below hw _ _ _ h.below, Nat.lt_of_lt_of_le h.lt (setAll_below (B := 0) (w := W) (Nat.zero_le _) _ _ W (Below.refl _ _)).size, fun i hi => ?_, fun i hi => ?_, fun i hi => ?_, fun i => (setAll_frozen _ _ _ _).trans (h.free i), fun i hi => ?_, fun i hi => ?_, fun i hi => ?_, fun i hi j => ?_, fun i hi => ?_⟩
  · by_cases hik : i = k
    · subst hik
      rw [if_pos (by omega)]
      exact setAll_at _ (i * 3) W 0 _ hsome rfl
    · have := oth i 0 hik (by omega)
      rw [Nat.add_zero] at this
      rw [this, h.lo i hi]
      by_cases h1 : i < k
      · rw [if_pos h1, if_pos (by omega)]
      · rw [if_neg h1, if_neg (by omega)]
  · by_cases hik : i = k
    · subst hik
      rw [if_pos (by omega)]
      exact setAll_at _ (i * 3) W 1 _ hsome rfl
    · rw [oth i 1 hik (by omega), h.hi i hi]
      by_cases h1 : i < k
      · rw [if_pos h1, if_pos (by omega)]
      · rw [if_neg h1, if_neg (by omega)]
  · by_cases hik : i = k
    · subst hik
      rw [if_pos (by omega), if_pos rfl]
      exact setAll_at _ (i * 3) W 2 _ hsome rfl
    · rw [oth i 2 hik (by omega), h.code i hi, if_neg hik]
      by_cases h1 : i < k
      · rw [if_pos h1, if_pos (by omega)]
      · rw [if_neg h1, if_neg (by omega)]
  · by_cases hik : i = k
    · rw [if_pos hik]; exact hg
    · rw [if_neg hik]; exact h.behind i (by omega)
  · by_cases hik : i = k
    · subst hik
      rw [if_pos rfl]
      exact hC.set (by omega)
    · rw [if_neg hik]
      exact (h.steps i (by omega)).set (by have := h.behind i (by omega); omega)
  · by_cases hik : i = k
    · subst hik
      simp only [if_true]
    · simp only [hik, if_false]
      exact h.copy i (by omega)
  · rw [setAll_frozen]
    by_cases hik : i = k
    · simp only [hik, if_true]; exact hfg j
    · simp only [hik, if_false]; exact h.fcode i (by omega) j
  · refine Nat.lt_of_lt_of_le ?_ (setAll_below (B := 0) (w := W) (Nat.zero_le _) _ _ W (Below.refl _ _)).size
    by_cases hik : i = k
    · simp only [hik, if_true]; exact hlg
    · simp only [hik, if_false]; exact h.lcode i (by omega)
/-- The copy's list lies in block g, its codes behind it; none of them is frozen. -/
structure Fresh (g m : Nat) (S : Nat → Spot) (W : World) : Prop where
  behind : ∀ i, i < m → g < (S i).b
  free : ∀ i, W.frozen? ⟨g, i, none⟩ = false
  fcode : ∀ i, i < m → ∀ j, W.frozen? ⟨(S i).b, j, none⟩ = false
  lt : g < W.heap.size
  lcode : ∀ i, i < m → (S i).b < W.heap.size
theorem Fresh.next {g m : Nat} {S : Nat → Spot} {W W' : World} (h : Fresh g m S W) (hb : Below W.heap.size W W') : Fresh g m S W' :=
  ⟨h.behind, fun i => (hb.frozen (p := ⟨g, i, none⟩) h.lt).trans (h.free i), fun i hi j => (hb.frozen (p := ⟨(S i).b, j, none⟩) (h.lcode i hi)).trans (h.fcode i hi j), Nat.lt_of_lt_of_le h.lt hb.size, fun i hi => Nat.lt_of_lt_of_le (h.lcode i hi) hb.size⟩
theorem Fresh.set {g m : Nat} {S : Nat → Spot} {W : World} (h : Fresh g m S W) (p : Addr) (v : Value) : Fresh g m S (W.setCell p v) :=
  ⟨h.behind, fun i => (World.frozen?_setCell ..).trans (h.free i), fun i hi j => (World.frozen?_setCell ..).trans (h.fcode i hi j), by simpa [World.setCell] using h.lt, fun i hi => by simpa [World.setCell] using h.lcode i hi⟩
theorem Part.fresh {w : World} {G m : Nat} {P : Nat → Proc} {S : Nat → Spot} {W : World} (h : Part w G m m P S W) : Fresh G m S W := ⟨h.behind, h.free, h.fcode, h.lt, h.lcode⟩
theorem Part.whole {w : World} {G m : Nat} {P : Nat → Proc} {S : Nat → Spot} {W : World} (h : Part w G m m P S W) : ProcsAt (some ⟨G, 0, none⟩) G 0 m P S W :=
  ⟨fun _ => rfl, fun _ => h.lt, fun i hi => by rw [Nat.zero_add, h.lo i hi, if_pos hi], fun i hi => by rw [Nat.zero_add, h.hi i hi, if_pos hi], fun i hi => by rw [Nat.zero_add, h.code i hi, if_pos hi], h.steps⟩

end Go.Proofs.YtiehokibfdaleaaDoor
namespace Go.Proofs.YtiehokibfdaleaaDoor
open Go.ChangeShapes Go.WideShapes Go.ChangeAt Go.RowKit

/-- v is the list zs; if there is anything in it, it lies in block g, at or behind B. -/
structure LstAt (B g : Nat) (a : Option Addr) (zs : List Int) (W : World) : Prop where
  at_ : 0 < zs.length → a = some ⟨g, 0, none⟩
  lo : 0 < zs.length → B ≤ g ∧ g < W.heap.size
  cell : ∀ j, j < zs.length → W.cell? ⟨g, j, none⟩ = some (.int .i64 (zs.getD j 0))
  free : 0 < zs.length → ∀ j, W.frozen? ⟨g, j, none⟩ = false
theorem LstAt.next {B g : Nat} {a : Option Addr} {zs : List Int} {W W' : World} (h : LstAt B g a zs W) (hb : Below W.heap.size W W') : LstAt B g a zs W' :=
  ⟨h.at_, fun hz => ⟨(h.lo hz).1, Nat.lt_of_lt_of_le (h.lo hz).2 hb.size⟩, fun j hj => (hb.cell (p := ⟨g, j, none⟩) (h.lo (by omega)).2).trans (h.cell j hj), fun hz j => (hb.frozen (p := ⟨g, j, none⟩) (h.lo hz).2).trans (h.free hz j)⟩

def marks (n : Nat) : List Int := (List.range n).map fun j : Nat => (j : Int) + 1
theorem marks_len (n : Nat) : (marks n).length = n := by simp [marks]
theorem marks_get {n j : Nat} (h : j < n) : (marks n).getD j 0 = (j : Int) + 1 := by simp [marks, h]

theorem LstAt.nextB {B C h : Nat} {b : Option Addr} {zs : List Int} {W W' : World} (k : LstAt C h b zs W) (hb : Below B W W') (hh : 0 < zs.length → h < B) : LstAt C h b zs W' :=
  ⟨k.at_, fun hz => ⟨(k.lo hz).1, Nat.lt_of_lt_of_le (k.lo hz).2 hb.size⟩, fun j hj => (hb.cell (p := ⟨h, j, none⟩) (hh (by omega))).trans (k.cell j hj), fun hz j => (hb.frozen (p := ⟨h, j, none⟩) (hh hz)).trans (k.free hz j)⟩

end Go.Proofs.YtiehokibfdaleaaDoor
namespace Go.Proofs.YtiehokibfdaleaaDoor
open Go.ChangeShapes Go.WideShapes Go.ChangeAt Go.RowKit

/-- Only blocks of T have turned; each cell is still there. -/
structure Turns (T : Nat → Prop) (W W' : World) : Prop where
  os : W'.os = W.os
  tape : W'.tape = W.tape
  output : W'.output = W.output
  size : W.heap.size ≤ W'.heap.size
  block : ∀ k, k < W.heap.size → ¬ T k → W'.heap[k]? = W.heap[k]?
  kept : ∀ p, p.block < W.heap.size → (W.cell? p).isSome = true → (W'.cell? p).isSome = true
  free : ∀ p, p.block < W.heap.size → W'.frozen? p = W.frozen? p
theorem Turns.refl (T : Nat → Prop) (W : World) : Turns T W W := ⟨rfl, rfl, rfl, Nat.le_refl _, fun _ _ _ => rfl, fun _ _ h => h, fun _ _ => rfl⟩
theorem Turns.trans {T : Nat → Prop} {a b c : World} (h : Turns T a b) (k : Turns T b c) : Turns T a c :=
  ⟨k.os.trans h.os, k.tape.trans h.tape, k.output.trans h.output, Nat.le_trans h.size k.size, fun i hi ht => (k.block i (Nat.lt_of_lt_of_le hi h.size) ht).trans (h.block i hi ht), fun p hp hs => k.kept p (Nat.lt_of_lt_of_le hp h.size) (h.kept p hp hs), fun p hp => (k.free p (Nat.lt_of_lt_of_le hp h.size)).trans (h.free p hp)⟩
theorem Turns.more {T U : Nat → Prop} {a b : World} (h : Turns T a b) (hT : ∀ k, T k → U k) : Turns U a b := ⟨h.os, h.tape, h.output, h.size, fun k hk hu => h.block k hk (fun ht => hu (hT k ht)), h.kept, h.free⟩
theorem Turns.ofBelow {T : Nat → Prop} {W W' : World} (h : Below W.heap.size W W') : Turns T W W' :=
  ⟨h.os, h.tape, h.output, h.size, fun k hk _ => h.block k hk, fun p hp hs => by rw [h.cell hp]; exact hs, fun p hp => h.frozen hp⟩
theorem Turns.below {T : Nat → Prop} {B : Nat} {W W' : World} (h : Turns T W W') (hB : B ≤ W.heap.size) (hT : ∀ k, T k → B ≤ k) : Below B W W' :=
  ⟨h.os, h.tape, h.output, h.size, fun k hk => h.block k (Nat.lt_of_lt_of_le hk hB) (fun ht => by have := hT k ht; omega)⟩
theorem Turns.cell {T : Nat → Prop} {W W' : World} (h : Turns T W W') {p : Addr} (hp : p.block < W.heap.size) (ht : ¬ T p.block) : W'.cell? p = W.cell? p := World.cell?_of_block (w := W) (h.block p.block hp ht)
theorem isSome_setCell {W : World} {p q : Addr} {v : Value} (h : (W.cell? p).isSome = true) : ((W.setCell q v).cell? p).isSome = true := by
  by_cases e : q = p
  · subst e
    rw [World.cell?_setCell_same' W q v h]; rfl
  · rw [World.cell?_setCell_other _ _ _ _ e]; exact h
theorem Turns.setCell {T : Nat → Prop} {a W : World} (h : Turns T a W) {p : Addr} (hp : T p.block) (v : Value) : Turns T a (W.setCell p v) :=
  ⟨h.os, h.tape, h.output, by simpa [World.setCell] using h.size, fun k hk ht => (Below.heap_setCell W p v k (fun e => ht (e ▸ hp))).trans (h.block k hk ht), fun q hq hs => isSome_setCell (h.kept q hq hs), fun q hq => (World.frozen?_setCell ..).trans (h.free q hq)⟩
theorem Turns.put {b o : Nat} {a W : World} (h : Turns (fun x => x = b) a W) (v : Value) : Turns (fun x => x = b) a (W.setCell ⟨b, o, none⟩ v) := h.setCell rfl v
theorem Turns.putG {g o : Nat} {a W : World} (h : Turns (fun x => g ≤ x) a W) (v : Value) : Turns (fun x => g ≤ x) a (W.setCell ⟨g, o, none⟩ v) := h.setCell (Nat.le_refl _) v
theorem Turns.alloc {T : Nat → Prop} {a W : World} (h : Turns T a W) (o : Obj) : Turns T a (W.alloc o) := h.trans (Turns.ofBelow ((Below.refl _ _).alloc (Nat.le_refl _) o))
theorem Turns.drew {T : Nat → Prop} {a W : World} (h : Turns T a W) : Turns T a W.drew := ⟨h.os, h.tape, h.output, h.size, h.block, h.kept, h.free⟩

/-- The cells of block b up to n are there, and may be written. -/
structure Room (b n : Nat) (W : World) : Prop where
  lt : b < W.heap.size
  there : ∀ i, i < n → (W.cell? ⟨b, i, none⟩).isSome = true
  free : ∀ i, W.frozen? ⟨b, i, none⟩ = false
theorem Room.turns {T : Nat → Prop} {b n : Nat} {W W' : World} (h : Room b n W) (t : Turns T W W') : Room b n W' :=
  ⟨Nat.lt_of_lt_of_le h.lt t.size, fun i hi => t.kept ⟨b, i, none⟩ h.lt (h.there i hi), fun i => (t.free ⟨b, i, none⟩ h.lt).trans (h.free i)⟩
theorem Room.get {b n : Nat} {W : World} (h : Room b n W) {i : Nat} (hi : i < n) : ∃ u, W.cell? ⟨b, i, none⟩ = some u := Option.isSome_iff_exists.1 (h.there i hi)

/-- A list of procedures that may be written, with the codes behind it. -/
structure ProcRoom (g m : Nat) (P : Nat → Proc) (S : Nat → Spot) (W : World) : Prop where
  room : Room g (m * 3) W
  code : ∀ i, i < m → W.cell? ⟨g, i * 3 + 2, none⟩ = some (.slice (some ⟨(S i).b, 0, none⟩) (P i).n (P i).n)
  behind : ∀ i, i < m → g < (S i).b
  rooms : ∀ i, i < m → Room (S i).b ((P i).n * 8) W
theorem ProcsAt.room {g m : Nat} {P : Nat → Proc} {S : Nat → Spot} {W : World} (h : ProcsAt (some ⟨g, 0, none⟩) g 0 m P S W) (hf : Fresh g m S W) (hc : Copy S P m) : ProcRoom g m P S W := by
  refine ⟨⟨hf.lt, fun i hi => ?_, hf.free⟩, fun i hi => ?_, hf.behind, fun i hi => ⟨hf.lcode i hi, fun k hk => ?_, hf.fcode i hi⟩⟩
  · obtain ⟨q, r, hr, rfl⟩ : ∃ q r, r < 3 ∧ i = q * 3 + r := ⟨i / 3, i % 3, Nat.mod_lt _ (by omega), by omega⟩
    have hq : q < m := by omega
    have e0 := h.lo q hq
    have e1 := h.hi q hq
    have e2 := h.code q hq
    rw [Nat.zero_add] at e0 e1 e2
    rcases (show r = 0 ∨ r = 1 ∨ r = 2 by omega) with rfl | rfl | rfl
    · rw [Nat.add_zero, e0]; rfl
    · rw [e1]; rfl
    · rw [e2]; rfl
  · have e2 := h.code i hi
    rw [Nat.zero_add, hc i hi] at e2
    exact e2
  · obtain ⟨q, r, hr, rfl⟩ : ∃ q r, r < 8 ∧ k = q * 8 + r := ⟨k / 8, k % 8, Nat.mod_lt _ (by omega), by omega⟩
    have e := (h.steps i hi).cell q r (by omega) hr
    have ho : (S i).off = 0 := by rw [hc i hi]
    rw [ho, Nat.zero_add] at e
    rw [e]; rfl
/-- How many marks the first procedures take. -/
def markTo (P : Nat → Proc) (i : Nat) : Int := 1 + 2 * i + sizeTo P i * 8
theorem sizeTo_up {P : Nat → Proc} {i m : Nat} (h : i ≤ m) : sizeTo P i ≤ sizeTo P m := by
  induction m with
  | zero => have : i = 0 := by omega
            subst this; exact Nat.le_refl _
  | succ m ih =>
    rcases (show i ≤ m ∨ i = m + 1 by omega) with h' | rfl
    · have := ih h'
      simp only [sizeTo]; omega
    · exact Nat.le_refl _
theorem LstAt.turns {T : Nat → Prop} {B g : Nat} {a : Option Addr} {zs : List Int} {W W' : World} (h : LstAt B g a zs W) (t : Turns T W W') (hT : 0 < zs.length → ¬ T g) : LstAt B g a zs W' :=
  ⟨h.at_, fun hz => ⟨(h.lo hz).1, Nat.lt_of_lt_of_le (h.lo hz).2 t.size⟩, fun j hj => (t.cell (p := ⟨g, j, none⟩) (h.lo (by omega)).2 (hT (by omega))).trans (h.cell j hj), fun hz j => (t.free ⟨g, j, none⟩ (h.lo hz).2).trans (h.free hz j)⟩
/-- What a region of a law holds on to: two blocks' first cells, and that nothing of V has turned. -/
def KB (V : World) (X Y : Nat) (x y : Value) (W : World) : Prop := W.cell? ⟨X, 0, none⟩ = some x ∧ W.cell? ⟨Y, 0, none⟩ = some y ∧ Below V.heap.size V W
theorem KB.of {V : World} {X Y : Nat} {x y : Value} {W : World} (hX : X < V.heap.size ∧ V.cell? ⟨X, 0, none⟩ = some x) (hY : Y < V.heap.size ∧ V.cell? ⟨Y, 0, none⟩ = some y) (h : Below V.heap.size V W) : KB V X Y x y W :=
  ⟨(h.cell (p := ⟨X, 0, none⟩) hX.1).trans hX.2, (h.cell (p := ⟨Y, 0, none⟩) hY.1).trans hY.2, h⟩
theorem KB.held {V : World} {X Y : Nat} {x y : Value} {W : World} (h : KB V X Y x y W) : Below V.heap.size V W := h.2.2
end Go.Proofs.YtiehokibfdaleaaDoor
namespace Go.Proofs.YtiehokibfdaleaaDoor
open Go.ChangeShapes Go.WideShapes Go.ChangeAt Go.RowKit

/-- The cells to be marked: each lies at or behind B, may be written, and is another one. -/
structure Pen (ad : Nat → Addr) (N B : Nat) (W : World) : Prop where
  inj : ∀ i j, i < N → j < N → ad i = ad j → i = j
  lo : ∀ i, i < N → B ≤ (ad i).block ∧ (ad i).block < W.heap.size
  there : ∀ i, i < N → (W.cell? (ad i)).isSome = true
  free : ∀ i, i < N → W.frozen? (ad i) = false
/-- The first n are marked. -/
def Mk (ad : Nat → Addr) (n : Nat) (W : World) : Prop := ∀ j, j < n → W.cell? (ad j) = some (.int .i64 ((j : Int) + 1))
/-- Only such cells have turned. -/
structure Wrote (ad : Nat → Addr) (N B : Nat) (W W' : World) : Prop where
  below : Below B W W'
  size : W.heap.size ≤ W'.heap.size
  other : ∀ p, p.block < W.heap.size → (∀ j, j < N → p ≠ ad j) → W'.cell? p = W.cell? p
  free : ∀ p, p.block < W.heap.size → W'.frozen? p = W.frozen? p
  kept : ∀ p, p.block < W.heap.size → (W.cell? p).isSome = true → (W'.cell? p).isSome = true
theorem Wrote.refl (ad : Nat → Addr) (N B : Nat) (W : World) : Wrote ad N B W W := ⟨Below.refl _ _, Nat.le_refl _, fun _ _ _ => rfl, fun _ _ => rfl, fun _ _ h => h⟩
theorem Wrote.trans {ad : Nat → Addr} {N B : Nat} {a b c : World} (h : Wrote ad N B a b) (k : Wrote ad N B b c) : Wrote ad N B a c :=
  ⟨h.below.trans k.below, Nat.le_trans h.size k.size, fun p hp hq => (k.other p (Nat.lt_of_lt_of_le hp h.size) hq).trans (h.other p hp hq), fun p hp => (k.free p (Nat.lt_of_lt_of_le hp h.size)).trans (h.free p hp), fun p hp hs => k.kept p (Nat.lt_of_lt_of_le hp h.size) (h.kept p hp hs)⟩
theorem Wrote.ofBelow {ad : Nat → Addr} {N B : Nat} {W W' : World} (h : Below W.heap.size W W') (hB : B ≤ W.heap.size) : Wrote ad N B W W' :=
  ⟨h.mono hB, h.size, fun _ hp _ => h.cell hp, fun _ hp => h.frozen hp, fun _ hp hs => by rw [h.cell hp]; exact hs⟩
theorem Pen.next {ad : Nat → Addr} {N B M : Nat} {W W' : World} (h : Pen ad N B W) (k : Wrote ad M B W W') : Pen ad N B W' :=
  ⟨h.inj, fun i hi => ⟨(h.lo i hi).1, Nat.lt_of_lt_of_le (h.lo i hi).2 k.size⟩, fun i hi => k.kept _ (h.lo i hi).2 (h.there i hi), fun i hi => (k.free _ (h.lo i hi).2).trans (h.free i hi)⟩
theorem Pen.below {ad : Nat → Addr} {N B : Nat} {W W' : World} (h : Pen ad N B W) (k : Below W.heap.size W W') : Pen ad N B W' :=
  ⟨h.inj, fun i hi => ⟨(h.lo i hi).1, Nat.lt_of_lt_of_le (h.lo i hi).2 k.size⟩, fun i hi => by rw [k.cell (h.lo i hi).2]; exact h.there i hi, fun i hi => (k.frozen (h.lo i hi).2).trans (h.free i hi)⟩
theorem Mk.below {ad : Nat → Addr} {N B n : Nat} {W W' : World} (h : Mk ad n W) (hP : Pen ad N B W) (hn : n ≤ N) (k : Below W.heap.size W W') : Mk ad n W' := fun j hj => (k.cell (hP.lo j (by omega)).2).trans (h j hj)
/-- One mark. -/
theorem Wrote.one {ad : Nat → Addr} {N B n : Nat} {W : World} (hP : Pen ad N B W) (hn : n < N) {p : Addr} (hp : ad n = p) (v : Value) : Wrote ad N B W (W.setCell p v) := by
  subst hp
  refine ⟨(Below.refl _ _).setCell (hP.lo n hn).1 _, by simp [World.setCell], fun q _ hq => World.cell?_setCell_other _ _ _ _ (fun e => hq n hn e.symm), fun q _ => World.frozen?_setCell .., fun q _ hs => isSome_setCell hs⟩
theorem Mk.one {ad : Nat → Addr} {N B n : Nat} {W : World} (h : Mk ad n W) (hP : Pen ad N B W) (hn : n < N) {p : Addr} (hp : ad n = p) {v : Value} (hv : v = .int .i64 ((n : Int) + 1)) : Mk ad (n + 1) (W.setCell p v) := by
  subst hp hv
  intro j hj
  by_cases e : j = n
  · subst e
    exact World.cell?_setCell_same' _ _ _ (hP.there j hn)
  · rw [World.cell?_setCell_other _ _ _ _ (fun e' => e (hP.inj j n (by omega) hn e'.symm))]
    exact h j (by omega)

end Go.Proofs.YtiehokibfdaleaaDoor
namespace Go.Proofs.YtiehokibfdaleaaDoor
open Go.ChangeShapes Go.WideShapes Go.ChangeAt Go.RowKit
set_option linter.unusedVariables false

/-- A list of bounds in a block of its own, at or behind B. -/
structure BndsIs (B n : Nat) (lo hi : Nat → Int) (a : Option Addr) (g : Nat) (W : World) : Prop where
  own : 0 < n → B ≤ g
  free : 0 < n → ∀ i, W.frozen? ⟨g, i, none⟩ = false
  at_ : BndsAt a g 0 n lo hi W
theorem BndsIs.next {B n : Nat} {lo hi : Nat → Int} {a : Option Addr} {g : Nat} {W W' : World} (h : BndsIs B n lo hi a g W) (hb : Below W.heap.size W W') : BndsIs B n lo hi a g W' :=
  ⟨h.own, fun hn i => (hb.frozen (p := ⟨g, i, none⟩) (h.at_.lt hn)).trans (h.free hn i), h.at_.next hb⟩
theorem BndsIs.base {B C n : Nat} {lo hi : Nat → Int} {a : Option Addr} {g : Nat} {W : World} (h : BndsIs B n lo hi a g W) (hC : C ≤ B) : BndsIs C n lo hi a g W :=
  ⟨fun hn => Nat.le_trans hC (h.own hn), h.free, h.at_⟩
theorem BndsIs.set {B n : Nat} {lo hi : Nat → Int} {a : Option Addr} {g : Nat} {W : World} {G o : Nat} {vs : List Value} (h : BndsIs B n lo hi a g W) (hne : G < B) : BndsIs B n lo hi a g (setAll G o vs W) := by
  by_cases hn : 0 < n
  · have := h.own hn
    exact ⟨h.own, fun _ i => (setAll_frozen _ _ _ _).trans (h.free hn i), h.at_.set (by omega)⟩
  · exact ⟨fun e => absurd e hn, fun e => absurd e hn, ⟨fun e => absurd e hn, fun e => absurd e hn, fun k hk => by omega, fun k hk => by omega⟩⟩
/-- A state, as answered. -/
def StIs (B : Nat) (on : Bool) (n : Nat) (lo hi : Nat → Int) (c d : Int) (v : Value) (W : World) : Prop := ∃ (a : Option Addr) (g cap : Nat), v = .agg #[.bool on, .slice a n cap, .int .i64 c, .int .i64 d] ∧ BndsIs B n lo hi a g W
theorem StIs.next {B : Nat} {on : Bool} {n : Nat} {lo hi : Nat → Int} {c d : Int} {v : Value} {W W' : World} (h : StIs B on n lo hi c d v W) (hb : Below W.heap.size W W') : StIs B on n lo hi c d v W' := by
  obtain ⟨a, g, cap, e, h1⟩ := h
  exact ⟨a, g, cap, e, h1.next hb⟩
theorem BndsIs.nil0 (B : Nat) (lo hi : Nat → Int) (W : World) : BndsIs B 0 lo hi none 0 W := ⟨fun h => absurd h (by omega), fun h => absurd h (by omega), ⟨fun h => absurd h (by omega), fun h => absurd h (by omega), fun k hk => absurd hk (by omega), fun k hk => absurd hk (by omega)⟩⟩
/-- The cells of a list of bounds, to be marked. -/
theorem BndsIs.pen {B n : Nat} {lo hi : Nat → Int} {a : Option Addr} {g : Nat} {W : World} (h : BndsIs B n lo hi a g W) : Pen (fun j => ⟨g, j, none⟩) (n * 2) B W := by
  refine ⟨fun i j _ _ e => by injection e, fun i hi => ⟨h.own (by omega), h.at_.lt (by omega)⟩, fun i hi => ?_, fun i hi => h.free (by omega) i⟩
  rcases (show i % 2 = 0 ∨ i % 2 = 1 by omega) with e | e
  · have := h.at_.lo (i / 2) (by omega)
    rw [Nat.zero_add, show i / 2 * 2 = i by omega] at this
    simp only [this]; rfl
  · have := h.at_.hi (i / 2) (by omega)
    rw [Nat.zero_add, show i / 2 * 2 + 1 = i by omega] at this
    simp only [this]; rfl
/-- An append whose run is known. -/
theorem wpList_append_run {P : Program} {w : World} {ops : Array Oper} {rest : List Oper} {o : Oper} {a : Act} {Q : Exit → Act → World → Prop} (hgd : o.guard = none) (d s : Operand) (dT sT : TypeId)
    (ho : o.op = .call { callee := .builtin .append, args := #[d, s], argTypes := #[dT, sT] }) (x y v' : Value) (w' : World) (hd : a.eval d = x) (hs : a.eval s = y)
    (hrun : ∀ ty, (Builtin.append_ #[dT, sT] ty #[x, y]).run P w = .ok v' w') (h : wpList P ops Q rest (a.put o.dst v') w') : wpList P ops Q (o :: rest) a w := by
  refine wpList_plain hgd fun K hK => ?_
  have hr := hrun o.type
  unfold Oper.wp
  simp [execOp, ho, resolve, invoke, builtin, hd, hs, hr, Result.andThen]
  exact hK _ _ h
set_option maxRecDepth 10000 in
set_option maxHeartbeats 4000000 in
theorem cloneI (b off cap : Nat) (lo hi : Nat → Int) (w : World) (hC : BndsAt (some ⟨b, off, none⟩) b off 4 lo hi w) :
    Calls Tryd.prog 32 #[.slice (some ⟨b, off, none⟩) 4 cap] w fun e w' => ∃ g c : Nat, e = .returned (.slice (some ⟨g, 0, none⟩) 4 c) ∧ BndsIs w.heap.size 4 lo hi (some ⟨g, 0, none⟩) g w' ∧ Below w.heap.size w w' := by
  have b0 : Below w.heap.size w (w.alloc (.cells #[] 25)) := (Below.refl _ _).alloc (Nat.le_refl _) _
  have hI := hC.next b0
  have s0 := hI.lo 0 (by omega)
  have s1 := hI.hi 0 (by omega)
  have s2 := hI.lo 1 (by omega)
  have s3 := hI.hi 1 (by omega)
  have s4 := hI.lo 2 (by omega)
  have s5 := hI.hi 2 (by omega)
  have s6 := hI.lo 3 (by omega)
  have s7 := hI.hi 3 (by omega)
  simp only [Nat.zero_mul, Nat.one_mul, Nat.reduceMul, Nat.add_assoc, Nat.reduceAdd, Nat.add_zero] at s0 s1 s2 s3 s4 s5 s6 s7
  obtain ⟨i, hi0, hzz⟩ := Option.map_eq_some_iff.1 (show (Tryd.prog.info? 25).map (fun i => (i.zero, i.size, i.bytes)) = some (some (.agg #[.int .i64 0, .int .i64 0]), 2, 16) by kernel_rfl)
  simp only [Prod.mk.injEq] at hzz
  obtain ⟨hz, hs2, hb16⟩ := hzz
  have hsrc : Src Tryd.prog i.size 23 (.slice (some ⟨b, off, none⟩) 4 cap) 4 [.int .i64 (lo 0), .int .i64 (hi 0), .int .i64 (lo 1), .int .i64 (hi 1), .int .i64 (lo 2), .int .i64 (hi 2), .int .i64 (lo 3), .int .i64 (hi 3)] (w.alloc (.cells #[] 25)) := by
    rw [hs2]
    exact Src.ofSlice _ Tryd.underlying23 ⟨b, off, none⟩ 4 cap [.int .i64 (lo 0), .int .i64 (hi 0), .int .i64 (lo 1), .int .i64 (hi 1), .int .i64 (lo 2), .int .i64 (hi 2), .int .i64 (lo 3), .int .i64 (hi 3)] rfl (fun j v hj => by
      rw [addr_mk]
      match j, hj with
      | 0, hj => simp at hj; subst hj; exact s0
      | 1, hj => simp at hj; subst hj; exact s1
      | 2, hj => simp at hj; subst hj; exact s2
      | 3, hj => simp at hj; subst hj; exact s3
      | 4, hj => simp at hj; subst hj; exact s4
      | 5, hj => simp at hj; subst hj; exact s5
      | 6, hj => simp at hj; subst hj; exact s6
      | 7, hj => simp at hj; subst hj; exact s7
      | j + 8, hj => simp at hj) (by simp [Value.oneCell'])
  have hap := fun ty => run_append_grow_src (P := Tryd.prog) (w.alloc (.cells #[] 25)) 23 23 ty 25 i _ Tryd.underlying23 hi0 hz (some ⟨w.heap.size, 0, none⟩) 0 0 []
    (run_firstCells_some _ i.size 0 ⟨w.heap.size, 0, none⟩ 0 0 [] (by simp) (fun j u hj => by simp at hj)) (.slice (some ⟨b, off, none⟩) 4 cap) 4 _ hsrc (by decide) (by decide) (by rw [hb16]; decide)
  simp only [List.nil_append, Nat.zero_add] at hap
  obtain ⟨cp, hcp⟩ : ∃ c, c = grownCap (w.alloc (.cells #[] 25)) 4 0 25 := ⟨_, rfl⟩
  rw [← hcp] at hap
  clear hcp hsrc hI s0 s1 s2 s3 s4 s5 s6 s7
  obtain ⟨cells, hcells⟩ : ∃ x : Array Value, x = ([.int .i64 (lo 0), .int .i64 (hi 0), .int .i64 (lo 1), .int .i64 (hi 1), .int .i64 (lo 2), .int .i64 (hi 2), .int .i64 (lo 3), .int .i64 (hi 3)] : List Value).toArray ++ Builtin.zeroCells (Value.cells (.agg #[.int .i64 0, .int .i64 0])) (cp - 4) := ⟨_, rfl⟩
  rw [← hcells] at hap
  have hget : ∀ j v, ([.int .i64 (lo 0), .int .i64 (hi 0), .int .i64 (lo 1), .int .i64 (hi 1), .int .i64 (lo 2), .int .i64 (hi 2), .int .i64 (lo 3), .int .i64 (hi 3)] : List Value)[j]? = some v → cells[j]? = some v := fun j v hj => by
    rw [hcells, Array.getElem?_append_left (by simp; have := (List.getElem?_eq_some_iff.1 hj).1; simpa using this)]
    simpa using hj
  clear hcells
  have hk : Below w.heap.size w ((w.alloc (.cells #[] 25)).drew.alloc (.cells cells 25)) := (b0.drew).alloc (by simp) _
  have hnil : ∀ W, (binOp .eql 23 (.slice (some ⟨b, off, none⟩) 4 cap) (.slice none 0 0)).run Tryd.prog W = .ok (.bool false) W := fun W => Lib.run_eql_slice_nil W _ _ _ _ _ _ _ Tryd.underlying23
  go_enter Tryd.func32, Tryd.ntmps32
  go_wp2_with (at_builtin; refine wpList_append_run rfl (.tmp 5) (.tmp 6) 23 23 rfl _ _ _ _ rfl rfl hap ?_)
  go_ret
  have hc : ∀ j v, ([.int .i64 (lo 0), .int .i64 (hi 0), .int .i64 (lo 1), .int .i64 (hi 1), .int .i64 (lo 2), .int .i64 (hi 2), .int .i64 (lo 3), .int .i64 (hi 3)] : List Value)[j]? = some v → ((w.alloc (.cells #[] 25)).drew.alloc (.cells cells 25)).cell? ⟨w.heap.size + 1, j, none⟩ = some v := fun j v hj => by
    have e : w.heap.size + 1 = (w.alloc (.cells #[] 25)).drew.heap.size := by simp
    rw [e]
    unfold World.cell?
    rw [heap_alloc_new]
    simpa using hget j v hj
  have hf : ∀ i, ((w.alloc (.cells #[] 25)).drew.alloc (.cells cells 25)).frozen? ⟨w.heap.size + 1, i, none⟩ = false := fun i => by
    have e : w.heap.size + 1 = (w.alloc (.cells #[] 25)).drew.heap.size := by simp
    rw [e]
    exact World.frozen?_alloc_new _ _ _ _
  refine ⟨w.heap.size + 1, cp, rfl, ⟨fun _ => by omega, fun _ => hf, ⟨fun _ => rfl, fun _ => by simp, fun k hk => ?_, fun k hk => ?_⟩⟩, hk⟩
  · rcases (show k = 0 ∨ k = 1 ∨ k = 2 ∨ k = 3 by omega) with rfl | rfl | rfl | rfl
    · exact hc 0 _ rfl
    · exact hc 2 _ rfl
    · exact hc 4 _ rfl
    · exact hc 6 _ rfl
  · rcases (show k = 0 ∨ k = 1 ∨ k = 2 ∨ k = 3 by omega) with rfl | rfl | rfl | rfl
    · exact hc 1 _ rfl
    · exact hc 3 _ rfl
    · exact hc 5 _ rfl
    · exact hc 7 _ rfl
end Go.Proofs.YtiehokibfdaleaaDoor
namespace Go.Proofs.YtiehokibfdaleaaDoor
open Go.ChangeShapes Go.WideShapes Go.ChangeAt Go.RowKit
set_option linter.unusedVariables false

def setF (l : Nat → Int) (k : Nat) (x : Int) : Nat → Int := fun j => if j = k then x else l j
set_option maxHeartbeats 4000000 in
theorem stateF (l h : Nat → Int) (w : World) :
    Calls Tryd.prog 17 #[.agg #[.bool false, .int .i64 (l 0), .int .i64 (h 0), .int .i64 (l 1), .int .i64 (h 1), .int .i64 (l 2), .int .i64 (h 2), .int .i64 (l 3), .int .i64 (h 3), .int .i64 (l 4), .int .i64 (h 4)]] w fun e w' => e = .returned (.agg #[.bool false, .slice none 0 0, .int .i64 0, .int .i64 0]) ∧ Below w.heap.size w w' := by
  go_enter Tryd.func17, Tryd.ntmps17
  go_wp2
  refine bodyPost_ret (v := .agg #[.bool false, .slice none 0 0, .int .i64 0, .int .i64 0]) (by simp [results, Tryd.results17, go_sem]) rfl ⟨rfl, ?_⟩
  repeat (first | exact Below.refl _ _ | refine Below.drew ?_ | refine Below.alloc ?_ (by simp; try omega) _ | refine Below.setCell ?_ (by simp; try omega) _)
/-- Nothing but block R turns. -/
def Trn (R : Nat) (_ : Nat) (W W' : World) : Prop := W.heap.size ≤ W'.heap.size ∧ ∀ p : Addr, p.block < W.heap.size → p.block ≠ R → W'.cell? p = W.cell? p ∧ W'.frozen? p = W.frozen? p
theorem Trn.ofBelow {R i : Nat} {W W' : World} (h : Below W.heap.size W W') : Trn R i W W' := ⟨h.size, fun p hp _ => ⟨h.cell hp, h.frozen hp⟩⟩
theorem Trn.refl {R i : Nat} {W : World} : Trn R i W W := ⟨Nat.le_refl _, fun _ _ _ => ⟨rfl, rfl⟩⟩
theorem Trn.setAll {R i o : Nat} {W : World} {vs : List Value} : Trn R i W (setAll R o vs W) :=
  ⟨(setAll_below (B := 0) (w := W) (Nat.zero_le _) vs o W (Below.refl _ _)).size, fun p _ hp => ⟨setAll_other _ _ _ _ (fun j _ e => hp (by rw [e])), setAll_frozen _ _ _ _⟩⟩
theorem BndsIs.trn {N R i n : Nat} {lo hi : Nat → Int} {a : Option Addr} {g : Nat} {W W' : World} (h : BndsIs N n lo hi a g W) (hR : R < N) (t : Trn R i W W') : BndsIs N n lo hi a g W' := by
  by_cases hn : 0 < n
  · have h1 := h.own hn
    have h2 := h.at_.lt hn
    have k : ∀ q, W'.cell? ⟨g, q, none⟩ = W.cell? ⟨g, q, none⟩ := fun q => (t.2 ⟨g, q, none⟩ h2 (by dsimp only; omega)).1
    exact ⟨h.own, fun _ i => (t.2 ⟨g, i, none⟩ h2 (by dsimp only; omega)).2.trans (h.free hn i), ⟨h.at_.at_, fun _ => Nat.lt_of_lt_of_le h2 t.1, fun j hj => (k _).trans (h.at_.lo j hj), fun j hj => (k _).trans (h.at_.hi j hj)⟩⟩
  · exact ⟨fun e => absurd e hn, fun e => absurd e hn, ⟨fun e => absurd e hn, fun e => absurd e hn, fun k hk => by omega, fun k hk => by omega⟩⟩
/-- The store stands behind the build, and that behind the call. -/
def Ch (L : Nat → Bool) : Prop := (L 7 = true → L 6 = true) ∧ (L 6 = true → L 2 = true)
theorem Ch.go {L : Nat → Bool} (h : Ch L) {i : Nat} (h7 : i = 7 → L 6 = true) (h6 : i = 6 → L 2 = true) : Ch (upd L i true) := by
  refine ⟨fun e => ?_, fun e => ?_⟩
  · by_cases e6 : 6 = i
    · subst e6; exact upd_same _ _ _
    · rw [upd_other _ _ e6]
      by_cases e7 : 7 = i
      · exact h7 e7.symm
      · rw [upd_other _ _ e7] at e; exact h.1 e
  · by_cases e2 : 2 = i
    · subst e2; exact upd_same _ _ _
    · rw [upd_other _ _ e2]
      by_cases e6 : 6 = i
      · exact h6 e6.symm
      · rw [upd_other _ _ e6] at e; exact h.2 e
theorem Ch.not7 {L : Nat → Bool} (h : Ch L) (h2 : L 2 = false) : L 7 = false := by
  cases e : L 7
  · rfl
  · rw [h.2 (h.1 e)] at h2; cases h2
def ClV (N : Nat) (l h : Nat → Int) (v : Value) (W : World) : Prop := ∃ g c : Nat, v = .slice (some ⟨g, 0, none⟩) 4 c ∧ BndsIs N 4 l h (some ⟨g, 0, none⟩) g W
def NsV (N : Nat) (l h : Nat → Int) (v : Value) (W : World) : Prop := ∃ g c : Nat, v = .agg #[.bool true, .slice (some ⟨g, 0, none⟩) 4 c, .int .i64 (l 4), .int .i64 (h 4)] ∧ BndsIs N 4 l h (some ⟨g, 0, none⟩) g W
def StS (w : World) (l h : Nat → Int) (L : Nat → Bool) (W : World) : Prop := Ch L ∧ (L 7 = false → HeldL w [(w.heap.size + 1, [Value.bool false, .slice none 0 0, .int .i64 0, .int .i64 0]), (w.heap.size, [Value.bool true, .int .i64 (l 0), .int .i64 (h 0), .int .i64 (l 1), .int .i64 (h 1), .int .i64 (l 2), .int .i64 (h 2), .int .i64 (l 3), .int .i64 (h 3), .int .i64 (l 4), .int .i64 (h 4)])] W) ∧ (L 7 = true → ∃ g c : Nat, HeldL w [(w.heap.size + 1, [Value.bool true, .slice (some ⟨g, 0, none⟩) 4 c, .int .i64 (l 4), .int .i64 (h 4)]), (w.heap.size, [Value.bool true, .int .i64 (l 0), .int .i64 (h 0), .int .i64 (l 1), .int .i64 (h 1), .int .i64 (l 2), .int .i64 (h 2), .int .i64 (l 3), .int .i64 (h 3), .int .i64 (l 4), .int .i64 (h 4)])] W ∧ BndsIs (w.heap.size + 1 + 1) 4 l h (some ⟨g, 0, none⟩) g W)
set_option maxRecDepth 10000 in
set_option maxHeartbeats 8000000 in
theorem stateT (l h : Nat → Int) (w : World) :
    Calls Tryd.prog 17 #[.agg #[.bool true, .int .i64 (l 0), .int .i64 (h 0), .int .i64 (l 1), .int .i64 (h 1), .int .i64 (l 2), .int .i64 (h 2), .int .i64 (l 3), .int .i64 (h 3), .int .i64 (l 4), .int .i64 (h 4)]] w fun e w' => ∃ g c : Nat, e = .returned (.agg #[.bool true, .slice (some ⟨g, 0, none⟩) 4 c, .int .i64 (l 4), .int .i64 (h 4)]) ∧ BndsIs w.heap.size 4 l h (some ⟨g, 0, none⟩) g w' ∧ Below w.heap.size w w' := by
  have H0 : HeldL w [(w.heap.size + 1, [Value.bool false, .slice none 0 0, .int .i64 0, .int .i64 0]), (w.heap.size, [Value.bool true, .int .i64 (l 0), .int .i64 (h 0), .int .i64 (l 1), .int .i64 (h 1), .int .i64 (l 2), .int .i64 (h 2), .int .i64 (l 3), .int .i64 (h 3), .int .i64 (l 4), .int .i64 (h 4)])] ((w.alloc (.cells #[.bool true, .int .i64 (l 0), .int .i64 (h 0), .int .i64 (l 1), .int .i64 (h 1), .int .i64 (l 2), .int .i64 (h 2), .int .i64 (l 3), .int .i64 (h 3), .int .i64 (l 4), .int .i64 (h 4)] 37)).alloc (.cells #[.bool false, .slice none 0 0, .int .i64 0, .int .i64 0] 27)) := by
    have e1 : w.heap.size + 1 = (w.alloc (.cells #[.bool true, .int .i64 (l 0), .int .i64 (h 0), .int .i64 (l 1), .int .i64 (h 1), .int .i64 (l 2), .int .i64 (h 2), .int .i64 (l 3), .int .i64 (h 3), .int .i64 (l 4), .int .i64 (h 4)] 37)).heap.size := by simp
    rw [e1]
    exact HeldL.newL (vs := [Value.bool false, .slice none 0 0, .int .i64 0, .int .i64 0]) (HeldL.newL (vs := [Value.bool true, .int .i64 (l 0), .int .i64 (h 0), .int .i64 (l 1), .int .i64 (h 1), .int .i64 (l 2), .int .i64 (h 2), .int .i64 (l 3), .int .i64 (h 3), .int .i64 (l 4), .int .i64 (h 4)]) (HeldL.nil w))
  have ne0 : ∀ e ∈ [(w.heap.size, [Value.bool true, .int .i64 (l 0), .int .i64 (h 0), .int .i64 (l 1), .int .i64 (h 1), .int .i64 (l 2), .int .i64 (h 2), .int .i64 (l 3), .int .i64 (h 3), .int .i64 (l 4), .int .i64 (h 4)])], e.1 ≠ w.heap.size + 1 := by intro e he; simp at he; subst he; dsimp only; omega
  have hS0 : StS w l h (fun _ => false) ((w.alloc (.cells #[.bool true, .int .i64 (l 0), .int .i64 (h 0), .int .i64 (l 1), .int .i64 (h 1), .int .i64 (l 2), .int .i64 (h 2), .int .i64 (l 3), .int .i64 (h 3), .int .i64 (l 4), .int .i64 (h 4)] 37)).alloc (.cells #[.bool false, .slice none 0 0, .int .i64 0, .int .i64 0] 27)).drew := ⟨⟨(fun e => by cases e), (fun e => by cases e)⟩, fun _ => H0.drew, (fun e => by cases e)⟩
  clear H0
  go_enter Tryd.func17, Tryd.ntmps17
  go_wp2_with fail
  refine region_inv3 [(0, 7), (1, 8), (2, 9), (3, 10), (4, 11), (5, 12), (6, 13)]
    (fun j v W => match j with
      | 0 => Is (.pointer (some ⟨w.heap.size, 1, none⟩)) v
      | 1 => Is (.slice (some ⟨w.heap.size, 1, none⟩) 4 5) v
      | 2 => ClV (w.heap.size + 1 + 1) l h v W
      | 3 => Is (.pointer (some ⟨w.heap.size, 1, none⟩)) v
      | 4 => Is (.pointer (some ⟨w.heap.size, 9, none⟩)) v
      | 5 => Is (.agg #[.int .i64 (l 4), .int .i64 (h 4)]) v
      | 6 => NsV (w.heap.size + 1 + 1) l h v W
      | _ => True)
    (fun L W => StS w l h L W) (Trn (w.heap.size + 1))
    (by kernel_rfl) (by kernel_rfl) (by kernel_rfl) (by kernel_rfl) (by kernel_rfl) rfl hS0 ?_ ?_ ?_
  · intro i j v W W' hji hφ hT
    match j, hji, hφ with
    | 0, _, hφ => exact hφ
    | 1, _, hφ => exact hφ
    | 2, _, hφ => obtain ⟨g, c, e, hb⟩ := hφ; exact ⟨g, c, e, hb.trn (by omega) hT⟩
    | 3, _, hφ => exact hφ
    | 4, _, hφ => exact hφ
    | 5, _, hφ => exact hφ
    | 6, _, hφ => obtain ⟨g, c, e, hb⟩ := hφ; exact ⟨g, c, e, hb.trn (by omega) hT⟩
    | _ + 7, _, _ => trivial
  · intro i L vals W hi' hφ hS hL hd
    have hi2 : i < 8 := hi'
    clear hi' hS0
    rcases (show i = 0 ∨ i = 1 ∨ i = 2 ∨ i = 3 ∨ i = 4 ∨ i = 5 ∨ i = 6 ∨ i = 7 by omega) with rfl | rfl | rfl | rfl | rfl | rfl | rfl | rfl
    · refine wpAt_of rfl rfl ?_
      simp only [frOf, Act.put]
      go_wp2_with fail
      first | exact ⟨trivial, rfl, Trn.refl, ⟨hS.1.go (fun e => absurd e (by decide)) (fun e => absurd e (by decide)), fun e => hS.2.1 (by rwa [upd_other _ _ (by decide)] at e), fun e => hS.2.2 (by rwa [upd_other _ _ (by decide)] at e)⟩⟩ | exact ⟨rfl, Trn.refl, ⟨hS.1.go (fun e => absurd e (by decide)) (fun e => absurd e (by decide)), fun e => hS.2.1 (by rwa [upd_other _ _ (by decide)] at e), fun e => hS.2.2 (by rwa [upd_other _ _ (by decide)] at e)⟩⟩
    · have k0 : vals 0 = .pointer (some ⟨w.heap.size, 1, none⟩) := hφ 0 (hd 0 (by decide))
      refine wpAt_of rfl rfl ?_
      simp only [frOf, Act.put]
      go_wp2_with fail
      first | exact ⟨trivial, rfl, Trn.refl, ⟨hS.1.go (fun e => absurd e (by decide)) (fun e => absurd e (by decide)), fun e => hS.2.1 (by rwa [upd_other _ _ (by decide)] at e), fun e => hS.2.2 (by rwa [upd_other _ _ (by decide)] at e)⟩⟩ | exact ⟨rfl, Trn.refl, ⟨hS.1.go (fun e => absurd e (by decide)) (fun e => absurd e (by decide)), fun e => hS.2.1 (by rwa [upd_other _ _ (by decide)] at e), fun e => hS.2.2 (by rwa [upd_other _ _ (by decide)] at e)⟩⟩
    · have k1 : vals 1 = .slice (some ⟨w.heap.size, 1, none⟩) 4 5 := hφ 1 (hd 1 (by decide))
      have h7 : L 7 = false := hS.1.not7 hL
      have hH := hS.2.1 h7
      have hC : BndsAt (some ⟨w.heap.size, 1, none⟩) w.heap.size 1 4 l h W := ⟨fun _ => rfl, fun _ => hH.size (List.mem_cons_of_mem _ List.mem_cons_self), fun k hk => hH.cell (List.mem_cons_of_mem _ List.mem_cons_self) (i := 1 + k * 2) (cellAt_lo true l h (by omega)), fun k hk => hH.cell (List.mem_cons_of_mem _ List.mem_cons_self) (i := 1 + k * 2 + 1) (cellAt_hi true l h (by omega))⟩
      have hz : w.heap.size + 1 < W.heap.size := hH.size List.mem_cons_self
      refine wpAt_of rfl rfl ?_
      simp only [frOf, Act.put]
      go_wp2_with fail
      refine (cloneI _ _ _ _ _ _ hC).mono ?_
      rintro e W' ⟨g, c, rfl, hB, hb⟩
      have hC' : ClV (w.heap.size + 1 + 1) l h (.slice (some ⟨g, 0, none⟩) 4 c) W' := ⟨g, c, rfl, hB.base (by omega)⟩
      have hH' := hH.next hb
      go_wp2_with fail
      first | exact ⟨trivial, hC', Trn.ofBelow hb, ⟨hS.1.go (fun e => absurd e (by decide)) (fun e => absurd e (by decide)), fun _ => hH', (fun e => by rw [upd_other _ _ (by decide), h7] at e; cases e)⟩⟩ | exact ⟨hC', Trn.ofBelow hb, ⟨hS.1.go (fun e => absurd e (by decide)) (fun e => absurd e (by decide)), fun _ => hH', (fun e => by rw [upd_other _ _ (by decide), h7] at e; cases e)⟩⟩
    · refine wpAt_of rfl rfl ?_
      simp only [frOf, Act.put]
      go_wp2_with fail
      first | exact ⟨trivial, rfl, Trn.refl, ⟨hS.1.go (fun e => absurd e (by decide)) (fun e => absurd e (by decide)), fun e => hS.2.1 (by rwa [upd_other _ _ (by decide)] at e), fun e => hS.2.2 (by rwa [upd_other _ _ (by decide)] at e)⟩⟩ | exact ⟨rfl, Trn.refl, ⟨hS.1.go (fun e => absurd e (by decide)) (fun e => absurd e (by decide)), fun e => hS.2.1 (by rwa [upd_other _ _ (by decide)] at e), fun e => hS.2.2 (by rwa [upd_other _ _ (by decide)] at e)⟩⟩
    · have k3 : vals 3 = .pointer (some ⟨w.heap.size, 1, none⟩) := hφ 3 (hd 3 (by decide))
      refine wpAt_of rfl rfl ?_
      simp only [frOf, Act.put]
      go_wp2_with fail
      first | exact ⟨trivial, rfl, Trn.refl, ⟨hS.1.go (fun e => absurd e (by decide)) (fun e => absurd e (by decide)), fun e => hS.2.1 (by rwa [upd_other _ _ (by decide)] at e), fun e => hS.2.2 (by rwa [upd_other _ _ (by decide)] at e)⟩⟩ | exact ⟨rfl, Trn.refl, ⟨hS.1.go (fun e => absurd e (by decide)) (fun e => absurd e (by decide)), fun e => hS.2.1 (by rwa [upd_other _ _ (by decide)] at e), fun e => hS.2.2 (by rwa [upd_other _ _ (by decide)] at e)⟩⟩
    · have k4 : vals 4 = .pointer (some ⟨w.heap.size, 9, none⟩) := hφ 4 (hd 4 (by decide))
      have c9 : W.cell? ⟨w.heap.size, 9, none⟩ = some (.int .i64 (l 4)) := by
        cases h7 : L 7
        · exact (hS.2.1 h7).cell (List.mem_cons_of_mem _ List.mem_cons_self) (i := 9) rfl
        · obtain ⟨_, _, hh, _⟩ := hS.2.2 h7
          exact hh.cell (List.mem_cons_of_mem _ List.mem_cons_self) (i := 9) rfl
      have c10 : W.cell? ⟨w.heap.size, 10, none⟩ = some (.int .i64 (h 4)) := by
        cases h7 : L 7
        · exact (hS.2.1 h7).cell (List.mem_cons_of_mem _ List.mem_cons_self) (i := 10) rfl
        · obtain ⟨_, _, hh, _⟩ := hS.2.2 h7
          exact hh.cell (List.mem_cons_of_mem _ List.mem_cons_self) (i := 10) rfl
      refine wpAt_of rfl rfl ?_
      simp only [frOf, Act.put]
      go_wp2_with fail
      first | exact ⟨trivial, rfl, Trn.refl, ⟨hS.1.go (fun e => absurd e (by decide)) (fun e => absurd e (by decide)), fun e => hS.2.1 (by rwa [upd_other _ _ (by decide)] at e), fun e => hS.2.2 (by rwa [upd_other _ _ (by decide)] at e)⟩⟩ | exact ⟨rfl, Trn.refl, ⟨hS.1.go (fun e => absurd e (by decide)) (fun e => absurd e (by decide)), fun e => hS.2.1 (by rwa [upd_other _ _ (by decide)] at e), fun e => hS.2.2 (by rwa [upd_other _ _ (by decide)] at e)⟩⟩
    · obtain ⟨g, c, k2, hB⟩ : ClV (w.heap.size + 1 + 1) l h (vals 2) W := hφ 2 (hd 2 (by decide))
      have k5 : vals 5 = .agg #[.int .i64 (l 4), .int .i64 (h 4)] := hφ 5 (hd 5 (by decide))
      refine wpAt_of rfl rfl ?_
      simp only [frOf, Act.put]
      go_wp2_with fail
      first | exact ⟨trivial, ⟨g, c, rfl, hB⟩, Trn.refl, ⟨hS.1.go (fun e => absurd e (by decide)) (fun _ => hd 2 (by decide)), fun e => hS.2.1 (by rwa [upd_other _ _ (by decide)] at e), fun e => hS.2.2 (by rwa [upd_other _ _ (by decide)] at e)⟩⟩ | exact ⟨⟨g, c, rfl, hB⟩, Trn.refl, ⟨hS.1.go (fun e => absurd e (by decide)) (fun _ => hd 2 (by decide)), fun e => hS.2.1 (by rwa [upd_other _ _ (by decide)] at e), fun e => hS.2.2 (by rwa [upd_other _ _ (by decide)] at e)⟩⟩
    · obtain ⟨g, c, k6, hB⟩ : NsV (w.heap.size + 1 + 1) l h (vals 6) W := hφ 6 (hd 6 (by decide))
      have hH := hS.2.1 hL
      have r0 := hH.cell List.mem_cons_self (i := 0) rfl
      have r1 := hH.cell List.mem_cons_self (i := 1) rfl
      have r2 := hH.cell List.mem_cons_self (i := 2) rfl
      have r3 := hH.cell List.mem_cons_self (i := 3) rfl
      have fr := hH.free _ List.mem_cons_self
      dsimp only at r0 r1 r2 r3 fr
      have hH' := HeldL.putI (i := 3) (x := .int .i64 (h 4)) (by omega) ne0 (HeldL.putI (i := 2) (x := .int .i64 (l 4)) (by omega) ne0 (HeldL.putI (i := 1) (x := .slice (some ⟨g, 0, none⟩) 4 c) (by omega) ne0 (HeldL.putI (i := 0) (x := .bool true) (by omega) ne0 hH (by simp)) (by simp)) (by simp)) (by simp)
      simp only [List.set_cons_succ, List.set_cons_zero] at hH'
      have hT : Trn (w.heap.size + 1) 7 W (setAll (w.heap.size + 1) 0 [.bool true, .slice (some ⟨g, 0, none⟩) 4 c, .int .i64 (l 4), .int .i64 (h 4)] W) := Trn.setAll
      have hB' := hB.trn (by omega) hT
      refine wpAt_none rfl rfl ?_
      simp only [frOf, Act.put]
      go_wp2_with fail
      have fin : StS w l h (upd L 7 true) (setAll (w.heap.size + 1) 0 [.bool true, .slice (some ⟨g, 0, none⟩) 4 c, .int .i64 (l 4), .int .i64 (h 4)] W) := ⟨hS.1.go (fun _ => hd 6 (by decide)) (fun e => absurd e (by decide)), (fun e => by rw [upd_same] at e; cases e), fun _ => ⟨g, c, hH', hB'⟩⟩
      first | exact ⟨trivial, trivial, hT, fin⟩ | exact ⟨trivial, hT, fin⟩ | exact ⟨hT, fin⟩
  · intro L vals W hall hφ hS
    have k0 : vals 0 = .pointer (some ⟨w.heap.size, 1, none⟩) := hφ 0 (by decide)
    have k1 : vals 1 = .slice (some ⟨w.heap.size, 1, none⟩) 4 5 := hφ 1 (by decide)
    have k3 : vals 3 = .pointer (some ⟨w.heap.size, 1, none⟩) := hφ 3 (by decide)
    have k4 : vals 4 = .pointer (some ⟨w.heap.size, 9, none⟩) := hφ 4 (by decide)
    have k5 : vals 5 = .agg #[.int .i64 (l 4), .int .i64 (h 4)] := hφ 5 (by decide)
    obtain ⟨g, c, hH, hB⟩ := hS.2.2 (hall 7 (by decide))
    simp only [frOf, Act.put, List.setIfInBounds_toArray, List.set_cons_succ, List.set_cons_zero, k0, k1, k3, k4, k5]
    clear k0 k1 k3 k4 k5 hall hφ hS0 hS
    have r0 := hH.cell List.mem_cons_self (i := 0) rfl
    have r1 := hH.cell List.mem_cons_self (i := 1) rfl
    have r2 := hH.cell List.mem_cons_self (i := 2) rfl
    have r3 := hH.cell List.mem_cons_self (i := 3) rfl
    dsimp only at r0 r1 r2 r3
    go_wp2_with fail
    refine bodyPost_ret (v := .agg #[.bool true, .slice (some ⟨g, 0, none⟩) 4 c, .int .i64 (l 4), .int .i64 (h 4)]) (by simp [results, Tryd.results17, go_sem, r0, r1, r2, r3]) rfl ⟨g, c, rfl, hB.base (by omega), hH.below⟩
end Go.Proofs.YtiehokibfdaleaaDoor
