/- Blocks of eight ints beside a reader: stored into, read; tables that a region makes. No program in it. · Lists of ints that a call makes of its own: an append inside a region that draws its order; the least and the greatest of few. No program in it. · What the drawing of a list of numbers answers over a reader; what the drawing of inputs answers. · Lists of steps of a call's own beside a reader: an append within a region that draws its order. No program in it. -/
import Derived.Test.YtiehokibfdaleaaDoorG4
import Derived.Test.YtiehokibfdaleaaDoorG3
import Derived.WalkKit
import Derived.Below
import Derived.Lib.Slices
namespace Go.Proofs.YtiehokibfdaleaaDoor
open Go.ChangeShapes Go.WideShapes Go.ChangeAt Go.RowKit

/-- Some step: eight ints. -/
def IsIns (v : Value) : Prop := ∃ x0 x1 x2 x3 x4 x5 x6 x7 : Int, v = .agg #[.int .i64 x0, .int .i64 x1, .int .i64 x2, .int .i64 x3, .int .i64 x4, .int .i64 x5, .int .i64 x6, .int .i64 x7] ∧ I64 x0 ∧ I64 x1 ∧ I64 x2 ∧ I64 x3 ∧ I64 x4 ∧ I64 x5 ∧ I64 x6 ∧ I64 x7
theorem old_rd {w : World} {R : Nat} {a : Option Addr} {m c : Nat} {z : Nat → Int} {p : Nat} (h : Rd w R a m c z p) : Old w a m := by
  rcases h.row with h0 | ⟨b, off, e, hb, _⟩
  · exact .inl h0
  · refine .inr fun b' off' e' => ?_
    rw [e] at e'
    injection e' with e'
    injection e' with e'
    have := h.size
    omega
theorem Dr.set8 {w : World} {R : Nat} {a : Option Addr} {m c : Nat} {z : Nat → Int} {Q : Nat} {F : List Sp} {W : World} (h : Dr w R a m c z Q F W) (ho : Old w a m) {B : Nat} (hB : B ≠ R) (hw : w.heap.size ≤ B) (hv : ∀ v, IsI v → ∀ f ∈ F, f.b = B → f.P v) {v0 v1 v2 v3 v4 v5 v6 v7 : Value} (i0 : IsI v0) (i1 : IsI v1) (i2 : IsI v2) (i3 : IsI v3) (i4 : IsI v4) (i5 : IsI v5) (i6 : IsI v6) (i7 : IsI v7) : Dr w R a m c z Q F ((((((((W.setCell ⟨B, 0, none⟩ v0).setCell ⟨B, 1, none⟩ v1).setCell ⟨B, 2, none⟩ v2).setCell ⟨B, 3, none⟩ v3).setCell ⟨B, 4, none⟩ v4).setCell ⟨B, 5, none⟩ v5).setCell ⟨B, 6, none⟩ v6).setCell ⟨B, 7, none⟩ v7) :=
  (((((((h.set ho hB hw (fun f hf hb _ => hv _ i0 f hf hb)).set ho hB hw (fun f hf hb _ => hv _ i1 f hf hb)).set ho hB hw (fun f hf hb _ => hv _ i2 f hf hb)).set ho hB hw (fun f hf hb _ => hv _ i3 f hf hb)).set ho hB hw (fun f hf hb _ => hv _ i4 f hf hb)).set ho hB hw (fun f hf hb _ => hv _ i5 f hf hb)).set ho hB hw (fun f hf hb _ => hv _ i6 f hf hb)).set ho hB hw (fun f hf hb _ => hv _ i7 f hf hb)
theorem Dr.at8 {w : World} {R : Nat} {a : Option Addr} {m c : Nat} {z : Nat → Int} {Q : Nat} {F : List Sp} {W : World} (h : Dr w R a m c z Q F W) {B : Nat} (hF : ∀ i, i < 8 → (⟨B, i, IsI⟩ : Sp) ∈ F) : ∃ x0 x1 x2 x3 x4 x5 x6 x7 : Int, (W.cell? ⟨B, 0, none⟩ = some (.int .i64 x0) ∧ W.cell? ⟨B, 1, none⟩ = some (.int .i64 x1) ∧ W.cell? ⟨B, 2, none⟩ = some (.int .i64 x2) ∧ W.cell? ⟨B, 3, none⟩ = some (.int .i64 x3) ∧ W.cell? ⟨B, 4, none⟩ = some (.int .i64 x4) ∧ W.cell? ⟨B, 5, none⟩ = some (.int .i64 x5) ∧ W.cell? ⟨B, 6, none⟩ = some (.int .i64 x6) ∧ W.cell? ⟨B, 7, none⟩ = some (.int .i64 x7)) ∧ (I64 x0 ∧ I64 x1 ∧ I64 x2 ∧ I64 x3 ∧ I64 x4 ∧ I64 x5 ∧ I64 x6 ∧ I64 x7) := by
  obtain ⟨_, c0, y0, rfl, k0⟩ := h.has (hF 0 (by omega))
  obtain ⟨_, c1, y1, rfl, k1⟩ := h.has (hF 1 (by omega))
  obtain ⟨_, c2, y2, rfl, k2⟩ := h.has (hF 2 (by omega))
  obtain ⟨_, c3, y3, rfl, k3⟩ := h.has (hF 3 (by omega))
  obtain ⟨_, c4, y4, rfl, k4⟩ := h.has (hF 4 (by omega))
  obtain ⟨_, c5, y5, rfl, k5⟩ := h.has (hF 5 (by omega))
  obtain ⟨_, c6, y6, rfl, k6⟩ := h.has (hF 6 (by omega))
  obtain ⟨_, c7, y7, rfl, k7⟩ := h.has (hF 7 (by omega))
  exact ⟨y0, y1, y2, y3, y4, y5, y6, y7, ⟨c0, c1, c2, c3, c4, c5, c6, c7⟩, ⟨k0, k1, k2, k3, k4, k5, k6, k7⟩⟩
theorem Dr.free8 {w : World} {R : Nat} {a : Option Addr} {m c : Nat} {z : Nat → Int} {Q : Nat} {F : List Sp} {W : World} (h : Dr w R a m c z Q F W) {B : Nat} (hF : ∀ i, i < 8 → (⟨B, i, IsI⟩ : Sp) ∈ F) : W.frozen? ⟨B, 0, none⟩ = false ∧ W.frozen? ⟨B, 1, none⟩ = false ∧ W.frozen? ⟨B, 2, none⟩ = false ∧ W.frozen? ⟨B, 3, none⟩ = false ∧ W.frozen? ⟨B, 4, none⟩ = false ∧ W.frozen? ⟨B, 5, none⟩ = false ∧ W.frozen? ⟨B, 6, none⟩ = false ∧ W.frozen? ⟨B, 7, none⟩ = false :=
  ⟨h.free (hF 0 (by omega)), h.free (hF 1 (by omega)), h.free (hF 2 (by omega)), h.free (hF 3 (by omega)), h.free (hF 4 (by omega)), h.free (hF 5 (by omega)), h.free (hF 6 (by omega)), h.free (hF 7 (by omega))⟩
theorem own8 {W : World} {B : Nat} {u0 u1 u2 u3 u4 u5 u6 u7 : Value} (k0 : W.cell? ⟨B, 0, none⟩ = some u0) (k1 : W.cell? ⟨B, 1, none⟩ = some u1) (k2 : W.cell? ⟨B, 2, none⟩ = some u2) (k3 : W.cell? ⟨B, 3, none⟩ = some u3) (k4 : W.cell? ⟨B, 4, none⟩ = some u4) (k5 : W.cell? ⟨B, 5, none⟩ = some u5) (k6 : W.cell? ⟨B, 6, none⟩ = some u6) (k7 : W.cell? ⟨B, 7, none⟩ = some u7) :
    (∀ x0, (W.setCell ⟨B, 0, none⟩ x0).cell? ⟨B, 0, none⟩ = some x0) ∧ (∀ x0 x1, ((W.setCell ⟨B, 0, none⟩ x0).setCell ⟨B, 1, none⟩ x1).cell? ⟨B, 1, none⟩ = some x1) ∧ (∀ x0 x1 x2, (((W.setCell ⟨B, 0, none⟩ x0).setCell ⟨B, 1, none⟩ x1).setCell ⟨B, 2, none⟩ x2).cell? ⟨B, 2, none⟩ = some x2) ∧ (∀ x0 x1 x2 x3, ((((W.setCell ⟨B, 0, none⟩ x0).setCell ⟨B, 1, none⟩ x1).setCell ⟨B, 2, none⟩ x2).setCell ⟨B, 3, none⟩ x3).cell? ⟨B, 3, none⟩ = some x3) ∧ (∀ x0 x1 x2 x3 x4, (((((W.setCell ⟨B, 0, none⟩ x0).setCell ⟨B, 1, none⟩ x1).setCell ⟨B, 2, none⟩ x2).setCell ⟨B, 3, none⟩ x3).setCell ⟨B, 4, none⟩ x4).cell? ⟨B, 4, none⟩ = some x4) ∧ (∀ x0 x1 x2 x3 x4 x5, ((((((W.setCell ⟨B, 0, none⟩ x0).setCell ⟨B, 1, none⟩ x1).setCell ⟨B, 2, none⟩ x2).setCell ⟨B, 3, none⟩ x3).setCell ⟨B, 4, none⟩ x4).setCell ⟨B, 5, none⟩ x5).cell? ⟨B, 5, none⟩ = some x5) ∧ (∀ x0 x1 x2 x3 x4 x5 x6, (((((((W.setCell ⟨B, 0, none⟩ x0).setCell ⟨B, 1, none⟩ x1).setCell ⟨B, 2, none⟩ x2).setCell ⟨B, 3, none⟩ x3).setCell ⟨B, 4, none⟩ x4).setCell ⟨B, 5, none⟩ x5).setCell ⟨B, 6, none⟩ x6).cell? ⟨B, 6, none⟩ = some x6) ∧ (∀ x0 x1 x2 x3 x4 x5 x6 x7, ((((((((W.setCell ⟨B, 0, none⟩ x0).setCell ⟨B, 1, none⟩ x1).setCell ⟨B, 2, none⟩ x2).setCell ⟨B, 3, none⟩ x3).setCell ⟨B, 4, none⟩ x4).setCell ⟨B, 5, none⟩ x5).setCell ⟨B, 6, none⟩ x6).setCell ⟨B, 7, none⟩ x7).cell? ⟨B, 7, none⟩ = some x7) := by
  refine ⟨?_, ?_, ?_, ?_, ?_, ?_, ?_, ?_⟩
  · intro x0
    refine World.cell?_setCell_same _ _ _ (u := u0) ?_
    exact k0
  · intro x0 x1
    refine World.cell?_setCell_same _ _ _ (u := u1) ?_
    rw [World.cell?_setCell_other _ _ _ _ (by simp)]
    exact k1
  · intro x0 x1 x2
    refine World.cell?_setCell_same _ _ _ (u := u2) ?_
    rw [World.cell?_setCell_other _ _ _ _ (by simp), World.cell?_setCell_other _ _ _ _ (by simp)]
    exact k2
  · intro x0 x1 x2 x3
    refine World.cell?_setCell_same _ _ _ (u := u3) ?_
    rw [World.cell?_setCell_other _ _ _ _ (by simp), World.cell?_setCell_other _ _ _ _ (by simp), World.cell?_setCell_other _ _ _ _ (by simp)]
    exact k3
  · intro x0 x1 x2 x3 x4
    refine World.cell?_setCell_same _ _ _ (u := u4) ?_
    rw [World.cell?_setCell_other _ _ _ _ (by simp), World.cell?_setCell_other _ _ _ _ (by simp), World.cell?_setCell_other _ _ _ _ (by simp), World.cell?_setCell_other _ _ _ _ (by simp)]
    exact k4
  · intro x0 x1 x2 x3 x4 x5
    refine World.cell?_setCell_same _ _ _ (u := u5) ?_
    rw [World.cell?_setCell_other _ _ _ _ (by simp), World.cell?_setCell_other _ _ _ _ (by simp), World.cell?_setCell_other _ _ _ _ (by simp), World.cell?_setCell_other _ _ _ _ (by simp), World.cell?_setCell_other _ _ _ _ (by simp)]
    exact k5
  · intro x0 x1 x2 x3 x4 x5 x6
    refine World.cell?_setCell_same _ _ _ (u := u6) ?_
    rw [World.cell?_setCell_other _ _ _ _ (by simp), World.cell?_setCell_other _ _ _ _ (by simp), World.cell?_setCell_other _ _ _ _ (by simp), World.cell?_setCell_other _ _ _ _ (by simp), World.cell?_setCell_other _ _ _ _ (by simp), World.cell?_setCell_other _ _ _ _ (by simp)]
    exact k6
  · intro x0 x1 x2 x3 x4 x5 x6 x7
    refine World.cell?_setCell_same _ _ _ (u := u7) ?_
    rw [World.cell?_setCell_other _ _ _ _ (by simp), World.cell?_setCell_other _ _ _ _ (by simp), World.cell?_setCell_other _ _ _ _ (by simp), World.cell?_setCell_other _ _ _ _ (by simp), World.cell?_setCell_other _ _ _ _ (by simp), World.cell?_setCell_other _ _ _ _ (by simp), World.cell?_setCell_other _ _ _ _ (by simp)]
    exact k7
/-- A new block of eight ints. -/
theorem Dr.new8 {w : World} {R : Nat} {a : Option Addr} {m c : Nat} {z : Nat → Int} {Q : Nat} {F : List Sp} {W : World} (h : Dr w R a m c z Q F W) {v0 v1 v2 v3 v4 v5 v6 v7 : Value} {t : TypeId} (i0 : IsI v0) (i1 : IsI v1) (i2 : IsI v2) (i3 : IsI v3) (i4 : IsI v4) (i5 : IsI v5) (i6 : IsI v6) (i7 : IsI v7) : Dr w R a m c z Q (⟨W.heap.size, 0, IsI⟩ :: ⟨W.heap.size, 1, IsI⟩ :: ⟨W.heap.size, 2, IsI⟩ :: ⟨W.heap.size, 3, IsI⟩ :: ⟨W.heap.size, 4, IsI⟩ :: ⟨W.heap.size, 5, IsI⟩ :: ⟨W.heap.size, 6, IsI⟩ :: ⟨W.heap.size, 7, IsI⟩ :: F) (W.alloc (.cells #[v0, v1, v2, v3, v4, v5, v6, v7] t)) := by
  obtain ⟨p, hp, hr⟩ := h.rd
  have hR := hr.size
  have hs := h.grown.size
  refine ⟨⟨p, hp, hr.kept (World.grownBy_alloc _ _ none) (by simp)⟩, grown_trans h.grown (World.grownBy_alloc _ _ _), ?_⟩
  refine Fs.cons (by show W.heap.size ≠ R; omega) hs (by show W.heap.size < _; simp) (by simp [go_sem]) (v := v0) (by simp [go_sem]) i0 ?_
  refine Fs.cons (by show W.heap.size ≠ R; omega) hs (by show W.heap.size < _; simp) (by simp [go_sem]) (v := v1) (by simp [go_sem]) i1 ?_
  refine Fs.cons (by show W.heap.size ≠ R; omega) hs (by show W.heap.size < _; simp) (by simp [go_sem]) (v := v2) (by simp [go_sem]) i2 ?_
  refine Fs.cons (by show W.heap.size ≠ R; omega) hs (by show W.heap.size < _; simp) (by simp [go_sem]) (v := v3) (by simp [go_sem]) i3 ?_
  refine Fs.cons (by show W.heap.size ≠ R; omega) hs (by show W.heap.size < _; simp) (by simp [go_sem]) (v := v4) (by simp [go_sem]) i4 ?_
  refine Fs.cons (by show W.heap.size ≠ R; omega) hs (by show W.heap.size < _; simp) (by simp [go_sem]) (v := v5) (by simp [go_sem]) i5 ?_
  refine Fs.cons (by show W.heap.size ≠ R; omega) hs (by show W.heap.size < _; simp) (by simp [go_sem]) (v := v6) (by simp [go_sem]) i6 ?_
  refine Fs.cons (by show W.heap.size ≠ R; omega) hs (by show W.heap.size < _; simp) (by simp [go_sem]) (v := v7) (by simp [go_sem]) i7 ?_
  exact h.fs.alloc _
/-- The first so many blocks keep their cells, but for the reader's and one that is stored into. -/
def Kp (R B : Nat) (_ : Nat) (W W' : World) : Prop := W.heap.size ≤ W'.heap.size ∧ ∀ b o, b < W.heap.size → b ≠ R → b ≠ B → W'.cell? ⟨b, o, none⟩ = W.cell? ⟨b, o, none⟩
theorem Kp.refl (R B i : Nat) (W : World) : Kp R B i W W := ⟨Nat.le_refl _, fun _ _ _ _ _ => rfl⟩
theorem Kp.of {R B i : Nat} {W W' : World} (g : W.grownBy W' (some R)) : Kp R B i W W' := ⟨g.size, fun b o h h1 _ => (gcell g).1 b o h h1⟩
theorem Kp.set8 {R B i : Nat} {W : World} {v0 v1 v2 v3 v4 v5 v6 v7 : Value} : Kp R B i W ((((((((W.setCell ⟨B, 0, none⟩ v0).setCell ⟨B, 1, none⟩ v1).setCell ⟨B, 2, none⟩ v2).setCell ⟨B, 3, none⟩ v3).setCell ⟨B, 4, none⟩ v4).setCell ⟨B, 5, none⟩ v5).setCell ⟨B, 6, none⟩ v6).setCell ⟨B, 7, none⟩ v7) := by
  refine ⟨by simp [World.setCell], fun b o _ _ hb => ?_⟩
  have n : ∀ j, (⟨B, j, none⟩ : Addr) ≠ ⟨b, o, none⟩ := fun j e => hb (by injection e with e; exact e.symm)
  rw [World.cell?_setCell_other _ _ _ _ (by first | exact n _ | exact (n _).symm), World.cell?_setCell_other _ _ _ _ (by first | exact n _ | exact (n _).symm), World.cell?_setCell_other _ _ _ _ (by first | exact n _ | exact (n _).symm), World.cell?_setCell_other _ _ _ _ (by first | exact n _ | exact (n _).symm), World.cell?_setCell_other _ _ _ _ (by first | exact n _ | exact (n _).symm), World.cell?_setCell_other _ _ _ _ (by first | exact n _ | exact (n _).symm), World.cell?_setCell_other _ _ _ _ (by first | exact n _ | exact (n _).symm), World.cell?_setCell_other _ _ _ _ (by first | exact n _ | exact (n _).symm)]
/-- A table of ints that the region made. -/
def TabN (R B n : Nat) (v : Value) (W : World) : Prop := ∃ g, v = .slice (some ⟨g, 0, none⟩) n n ∧ g < W.heap.size ∧ g ≠ R ∧ g ≠ B ∧ ∀ k, k < n → ∃ x, W.cell? ⟨g, k, none⟩ = some (.int .i64 x) ∧ I64 x
def Spt (R B : Nat) (v : Value) (W : World) : Prop := ∃ g k, v = .pointer (some ⟨g, k, none⟩) ∧ g < W.heap.size ∧ g ≠ R ∧ g ≠ B ∧ ∃ x, W.cell? ⟨g, k, none⟩ = some (.int .i64 x) ∧ I64 x
theorem TabN.next {R B n i : Nat} {v : Value} {W W' : World} (h : TabN R B n v W) (k : Kp R B i W W') : TabN R B n v W' := by
  obtain ⟨g, e, h1, h2, h3, h4⟩ := h
  refine ⟨g, e, Nat.lt_of_lt_of_le h1 k.1, h2, h3, fun j hj => ?_⟩
  obtain ⟨x, c, hx⟩ := h4 j hj
  exact ⟨x, (k.2 g j h1 h2 h3).trans c, hx⟩
theorem Spt.next {R B i : Nat} {v : Value} {W W' : World} (h : Spt R B v W) (k : Kp R B i W W') : Spt R B v W' := by
  obtain ⟨g, j, e, h1, h2, h3, x, c, hx⟩ := h
  exact ⟨g, j, e, Nat.lt_of_lt_of_le h1 k.1, h2, h3, x, (k.2 g j h1 h2 h3).trans c, hx⟩
theorem tabN_of {R B n : Nat} {W : World} {cs : Array Value} {t : TypeId} (hR : R < W.heap.size) (hB : B < W.heap.size) (hs : cs.size = n) (hall : cs.toList.all (inTab (-9223372036854775808) 9223372036854775807) = true) : TabN R B n (.slice (some ⟨W.heap.size, 0, none⟩) n n) (W.alloc (.cells cs t)) := by
  refine ⟨W.heap.size, rfl, by simp, by omega, by omega, fun k hk => ?_⟩
  obtain ⟨x, e, h1, h2⟩ := inTab_int (all_of hall k (by omega))
  exact ⟨x, by rw [cell_new W cs t k (by omega), e], h1, h2⟩
/-- A number below n. -/
def Nt (n : Int) (v : Value) : Prop := ∃ k : Int, 0 ≤ k ∧ k < n ∧ v = .int .i64 k
theorem DS.alloc {w : World} {R : Nat} {a : Option Addr} {m c : Nat} {z : Nat → Int} {Q K n : Nat} {F : List Sp} {L : Nat → Bool} {W : World} (h : DS w R a m c z Q K n F L W) {i : Nat} (hL : L i = false) (hi : i < n) (o : Obj) : DS w R a m c z Q K n F (upd L i true) (W.alloc o) := (h.below ((Below.refl _ _).alloc (Nat.le_refl _) o)).pure hL hi
theorem DS.set8 {w : World} {R : Nat} {a : Option Addr} {m c : Nat} {z : Nat → Int} {Q K n : Nat} {F : List Sp} {L : Nat → Bool} {W : World} (h : DS w R a m c z Q K n F L W) {i : Nat} (hL : L i = false) (hi : i < n) (ho : Old w a m) {B : Nat} (hB : B ≠ R) (hw : w.heap.size ≤ B) (hv : ∀ v, IsI v → ∀ f ∈ F, f.b = B → f.P v) {v0 v1 v2 v3 v4 v5 v6 v7 : Value} (i0 : IsI v0) (i1 : IsI v1) (i2 : IsI v2) (i3 : IsI v3) (i4 : IsI v4) (i5 : IsI v5) (i6 : IsI v6) (i7 : IsI v7) : DS w R a m c z Q K n F (upd L i true) ((((((((W.setCell ⟨B, 0, none⟩ v0).setCell ⟨B, 1, none⟩ v1).setCell ⟨B, 2, none⟩ v2).setCell ⟨B, 3, none⟩ v3).setCell ⟨B, 4, none⟩ v4).setCell ⟨B, 5, none⟩ v5).setCell ⟨B, 6, none⟩ v6).setCell ⟨B, 7, none⟩ v7) := (show DS w R a m c z Q K n F L _ from Dr.set8 h ho hB hw hv i0 i1 i2 i3 i4 i5 i6 i7).pure hL hi
/-- Some step was drawn. -/
def DIns (R : Nat) (a : Option Addr) (m c : Nat) (z : Nat → Int) (p : Nat) (w : World) (e : Ending) (w' : World) : Prop := ∃ (v : Value) (p' : Nat), IsIns v ∧ e = .returned v ∧ p' ≤ p + 80 ∧ Rd w' R a m c z p' ∧ w.grownBy w' (some R)
end Go.Proofs.YtiehokibfdaleaaDoor
namespace Go.Proofs.YtiehokibfdaleaaDoor
open Go.RowKit

/-- append to a list of the call's own, with room or without, as one step of a region that draws. -/
theorem step_append_own {P : Program} {ops : Array Oper} {o : Oper} {a : Act} {w : World} {K : Act → World → Prop} {Q : Exit → Act → World → Prop} {E : Prop}
    (hg : o.guard = none) (s x : Operand) (t : TypeId) (hop : o.op = Op.call { callee := Callee.builtin Builtin.append, args := #[s, x], argTypes := #[t, t] })
    (base : Nat) (e : TypeId) (i : TypeInfo) (z : Value) (size bytes : Nat) (h1 : P.underlying t = some (.slice e)) (h2 : P.info? e = some i) (h3 : i.zero = some z) (h4 : i.size = size) (h5 : i.bytes = bytes) (h6 : z.cells.size = size) (h7 : 0 < size)
    (v : Value) (n : Nat) (xs : List Value) (hs : a.eval s = v) (hown : w.ownsRow base e size v n xs)
    (ad : Addr) (m c : Nat) (news : List Value) (hx : a.eval x = .slice (some ad) m c) (hn : news.length = m * size) (hc : ∀ j u, news[j]? = some u → w.cell? (ad.add j) = some u) (h1c : ∀ u ∈ news, u.oneCell' = true)
    (b1 : n + m ≤ maxLen) (b2 : (n + m) * bytes ≤ 140737488355328) (hbase : base ≤ w.heap.size)
    (hK : ∀ v' w', w'.ownsRow base e size v' (n + m) (xs ++ news) → w.grownBy w' v.ownBlock → K (a.put o.dst v') w') :
    if Region.wanted o (yielded ops a.tmps) = true then Oper.wp P o a w K Q else E := by
  have hw : Region.wanted o (yielded ops a.tmps) = true := by simp [Region.wanted, hg]
  rw [if_pos hw]
  obtain ⟨v', w', hrun, r1, r2, _⟩ := run_append_own (P := P) w base t o.type e i z size bytes h1 h2 h3 h4 h5 h6 h7 v n xs hown ad m c news hn hc h1c b1 b2 hbase
  unfold Oper.wp
  simp [execOp, hop, resolve, invoke, builtin, hs, hx, hrun, Result.andThen]
  exact hK v' w' r1 r2

/-- v is a list of ints of the call's own, made behind block B. -/
def Owns (B : Nat) (e : TypeId) (v : Value) (zs : List Int) (W : World) : Prop := W.ownsRow B e 1 v zs.length (zs.map (Value.int .i64))
theorem Owns.nil (B : Nat) (e : TypeId) (W : World) : Owns B e (.slice none 0 0) [] W := World.ownsRow_nil _ _ _ _
theorem Owns.alloc {B : Nat} {e : TypeId} {v : Value} {zs : List Int} {W : World} (h : Owns B e v zs W) (o : Obj) : Owns B e v zs (W.alloc o) := World.ownsRow.alloc h o
theorem Owns.weaken {B C : Nat} {e : TypeId} {v : Value} {zs : List Int} {W : World} (h : Owns B e v zs W) (hc : C ≤ B) : Owns C e v zs W := by
  refine ⟨h.1, ?_⟩
  rcases h.2 with h2 | ⟨g, cap, cur, h1, h2, h3⟩
  · exact .inl h2
  · exact .inr ⟨g, cap, cur, h1, Nat.le_trans hc h2, h3⟩
theorem Owns.drew {B : Nat} {e : TypeId} {v : Value} {zs : List Int} {W : World} (h : Owns B e v zs W) : Owns B e v zs W.drew := h
theorem Owns.form {B : Nat} {e : TypeId} {v : Value} {zs : List Int} {W : World} (h : Owns B e v zs W) (hz : zs ≠ []) : ∃ g cap, v = .slice (some ⟨g, 0, none⟩) zs.length cap ∧ B ≤ g ∧ g < W.heap.size ∧ (∀ j, j < zs.length → W.cell? ⟨g, j, none⟩ = some (.int .i64 (zs.getD j 0))) ∧ zs.length ≤ cap ∧ cap ≤ maxLen := by
  have h0 := h
  rcases h.2 with ⟨_, h1⟩ | ⟨g, cap, cur, rfl, hb, hg, h2, h3, _⟩
  · exact absurd (List.eq_nil_of_length_eq_zero h1) hz
  · refine ⟨g, cap, rfl, hb, (World.ownsRow.lt h0 g rfl).2, fun j hj => ?_, h2, h3⟩
    rw [World.ownsRow.cellAt h0 j (by omega)]
    simp [hj]
theorem Owns.grown {B C : Nat} {e : TypeId} {v : Value} {zs : List Int} {W0 W W' : World} (hC : C ≤ B) (h : Owns B e v zs W) (hb : Below C W0 W) (hB : C ≤ W.heap.size) (hg : W.grownBy W' v.ownBlock) : Below C W0 W' :=
  hb.grown hg hB fun k hk => Nat.le_trans hC (World.ownsRow.lt h k hk).1
theorem Owns.two {B : Nat} {e : TypeId} {v' : Value} {zs : List Int} {W' : World} {x y : Int} (h : W'.ownsRow B e 1 v' (zs.length + 2) (zs.map (Value.int .i64) ++ [.int .i64 x, .int .i64 y])) : Owns B e v' (zs ++ [x, y]) W' := by
  unfold Owns
  simpa using h
theorem min2 (a b : Int) : Lib.minOf [a, b] = min a b := by simp [Lib.minOf]
theorem max2 (a b : Int) : Lib.maxOf [a, b] = max a b := by simp [Lib.maxOf]
theorem min4 (a b c d : Int) : Lib.minOf [a, b, c, d] = min (min a b) (min c d) := by simp [Lib.minOf]
theorem max4 (a b c d : Int) : Lib.maxOf [a, b, c, d] = max (max a b) (max c d) := by simp [Lib.maxOf]
theorem min8 (a b c d p q r s : Int) : Lib.minOf [a, b, c, d, p, q, r, s] = min (min (min a b) (min c d)) (min (min p q) (min r s)) := by simp [Lib.minOf]
theorem max8 (a b c d p q r s : Int) : Lib.maxOf [a, b, c, d, p, q, r, s] = max (max (max a b) (max c d)) (max (max p q) (max r s)) := by simp [Lib.maxOf]
end Go.Proofs.YtiehokibfdaleaaDoor
namespace Go.Proofs.YtiehokibfdaleaaDoor
open Go.ChangeShapes Go.WideShapes Go.ChangeAt Go.RowKit

def Inp (zs : List Int) : Prop := ∀ x ∈ zs, -32768 ≤ x ∧ x ≤ 32767
/-- A list of so many numbers lies somewhere of its own, at or behind B. -/
def ListAt (B n : Nat) (v : Value) (W : World) : Prop := ∃ g cap zs, v = .slice (some ⟨g, 0, none⟩) n cap ∧ n ≤ cap ∧ B ≤ g ∧ g < W.heap.size ∧ zs.length = n ∧ Inp zs ∧ ∀ j, j < n → W.cell? ⟨g, j, none⟩ = some (.int .i64 (zs.getD j 0))

theorem infoIntL : (Tryd.prog.info? 3).map (fun i => (i.zero, i.size, i.bytes)) = some (some (.int .i64 0), 1, 8) := by kernel_rfl
theorem one_cells {W : World} {g : Nat} {x : Value} (h : W.cell? ⟨g, 0, none⟩ = some x) : ∀ j u, ([x] : List Value)[j]? = some u → W.cell? ((⟨g, 0, none⟩ : Addr).add j) = some u := by
  intro j u hj
  cases j with
  | zero =>
    simp at hj
    subst hj
    simpa [Addr.add] using h
  | succ j => simp at hj

theorem Owns.reader {B R : Nat} {e : TypeId} {v : Value} {zs : List Int} {W W' : World} (h : Owns B e v zs W) (hR : R < B) (g : W.grownBy W' (some R)) : Owns B e v zs W' := by
  refine ⟨h.1, ?_⟩
  rcases h.2 with h2 | ⟨b, cap, cur, h1, h2, h3, h4⟩
  · exact .inl h2
  · exact .inr ⟨b, cap, cur, h1, h2, (g.block b (Array.getElem?_eq_some_iff.1 h3).1 (fun e => by injection e; omega)).trans h3, h4⟩
theorem grown_own {a b c : World} {R : Nat} {row : Option Nat} (h : a.grownBy b (some R)) (k : b.grownBy c row) (hr : ∀ j, row = some j → a.heap.size ≤ j) : a.grownBy c (some R) :=
  ⟨k.os.trans h.os, k.tape.trans h.tape, k.output.trans h.output, Nat.le_trans h.size k.size, fun i hi hne => (k.block i (Nat.lt_of_lt_of_le hi h.size) (fun e => by have := hr i e.symm; omega)).trans (h.block i hi hne)⟩
theorem grown_none {w w' : World} (g : w.grownBy w' none) : Below w.heap.size w w' := ⟨g.os, g.tape, g.output, g.size, fun k hk => g.block k hk (by simp)⟩
theorem ListAt.next {B C n : Nat} {v : Value} {W W' : World} (h : ListAt B n v W) (hC : C ≤ B) (hb : Below W.heap.size W W') : ListAt C n v W' := by
  obtain ⟨g, cap, zs, h1, h2, h3, h4, h5, h6, h7⟩ := h
  exact ⟨g, cap, zs, h1, h2, Nat.le_trans hC h3, Nat.lt_of_lt_of_le h4 hb.size, h5, h6, fun j hj => (hb.cell (p := ⟨g, j, none⟩) h4).trans (h7 j hj)⟩

end Go.Proofs.YtiehokibfdaleaaDoor
namespace Go.Proofs.YtiehokibfdaleaaDoor
open Go.ChangeShapes Go.WideShapes Go.ChangeAt Go.RowKit

/-- append to a list of the call's own, with room or without, as one operation of a region that is looked at once. -/
theorem wpAt_own_append {P : Program} {ops : Array Oper} {o : Oper} {a : Act} {w : World} {Q : Exit → Act → World → Prop} {ix d : Nat} {R : Value → World → Prop}
    (hi : ops[ix]? = some o) (hd : o.dst = some d) (hg : o.guard = none) (hlt : d < a.tmps.size) (s x : Operand) (t : TypeId) (hop : o.op = Op.call { callee := Callee.builtin Builtin.append, args := #[s, x], argTypes := #[t, t] })
    (base : Nat) (e : TypeId) (i : TypeInfo) (z : Value) (size bytes : Nat) (h1 : P.underlying t = some (.slice e)) (h2 : P.info? e = some i) (h3 : i.zero = some z) (h4 : i.size = size) (h5 : i.bytes = bytes) (h6 : z.cells.size = size) (h7 : 0 < size)
    (v : Value) (n : Nat) (xs : List Value) (hs : a.eval s = v) (hown : w.ownsRow base e size v n xs)
    (ad : Addr) (m c : Nat) (news : List Value) (hx : a.eval x = .slice (some ad) m c) (hn : news.length = m * size) (hc : ∀ j u, news[j]? = some u → w.cell? (ad.add j) = some u) (h1c : ∀ u ∈ news, u.oneCell' = true)
    (b1 : n + m ≤ maxLen) (b2 : (n + m) * bytes ≤ 140737488355328) (hbase : base ≤ w.heap.size)
    (hK : ∀ v' w', w'.ownsRow base e size v' (n + m) (xs ++ news) → w.grownBy w' v.ownBlock → R v' w') :
    wpAt P ops Q ix R a w := by
  refine wpAt_of hi hd ?_
  refine wpList_append_own w hg s x t hop base e i z size bytes h1 h2 h3 h4 h5 h6 h7 v n xs hs hown ad m c news hx hn hc h1c b1 b2 hbase (fun v' w' r1 r2 _ => ?_)
  have h := hK v' w' r1 r2
  rw [hd]
  simp [wpList, Exit.then, Act.put, hlt]
  exact h
/-- v is a list of k steps of the call's own, made at or behind N. -/
def OwnI (N : Nat) (e : TypeId) (v : Value) (k : Nat) (W : World) : Prop := ∃ xs, W.ownsRow N e 8 v k xs ∧ ∀ x ∈ xs, IsI x
theorem OwnI.keep {N : Nat} {e : TypeId} {v : Value} {k : Nat} {W W' : World} (h : OwnI N e v k W) (hb : ∀ g, v.ownBlock = some g → W'.heap[g]? = W.heap[g]?) : OwnI N e v k W' := by
  obtain ⟨xs, h, hx⟩ := h
  refine ⟨xs, ⟨h.1, ?_⟩, hx⟩
  rcases h.2 with h2 | ⟨g, cap, cur, h1, h2, h3, h4⟩
  · exact .inl h2
  · exact .inr ⟨g, cap, cur, h1, h2, (hb g (by rw [h1]; rfl)).trans h3, h4⟩
theorem OwnI.blk {N : Nat} {e : TypeId} {v : Value} {k g : Nat} {W : World} (h : OwnI N e v k W) (hg : v.ownBlock = some g) : N ≤ g ∧ g < W.heap.size ∧ ∃ cur, W.heap[g]? = some (.cells cur e (0, 0)) := by
  obtain ⟨xs, h, _⟩ := h
  have := World.ownsRow.lt h g hg
  rcases h.2 with ⟨rfl, _⟩ | ⟨g', cap, cur, rfl, h2, h3, h4⟩
  · simp [Value.ownBlock] at hg
  · simp [Value.ownBlock] at hg
    subst hg
    exact ⟨this.1, this.2, cur, h3⟩
theorem OwnI.nil (N : Nat) (e : TypeId) (W : World) : OwnI N e (.slice none 0 0) 0 W := ⟨[], World.ownsRow_nil _ _ _ _, fun _ h => by cases h⟩
theorem OwnI.weaken {N M : Nat} {e : TypeId} {v : Value} {k : Nat} {W : World} (h : OwnI N e v k W) (hM : M ≤ N) : OwnI M e v k W := by
  obtain ⟨xs, h, hx⟩ := h
  refine ⟨xs, ⟨h.1, ?_⟩, hx⟩
  rcases h.2 with h2 | ⟨g, cap, cur, h1, h2, h3⟩
  · exact .inl h2
  · exact .inr ⟨g, cap, cur, h1, Nat.le_trans hM h2, h3⟩
theorem OwnI.grown {N R : Nat} {e : TypeId} {v : Value} {k : Nat} {W W' : World} (h : OwnI N e v k W) (hR : R < N) (g : W.grownBy W' (some R)) : OwnI N e v k W' :=
  h.keep fun b hb => g.block b (h.blk hb).2.1 (fun e => by injection e with e; have := (h.blk hb).1; omega)
/-- The block's element type. -/
def Typ (B : Nat) (eB : TypeId) (W : World) : Prop := ∃ cur fr, W.heap[B]? = some (.cells cur eB fr)
theorem Typ.ne {N B : Nat} {e eB : TypeId} {v : Value} {k : Nat} {W : World} (h : Typ B eB W) (ho : OwnI N e v k W) (he : eB ≠ e) : v.ownBlock ≠ some B := by
  intro hb
  obtain ⟨cur, hc⟩ := (ho.blk hb).2.2
  obtain ⟨c', fr, hf⟩ := h
  rw [hc] at hf
  injection hf with hf
  injection hf with _ hf
  exact he hf.symm
theorem Typ.keep {B : Nat} {eB : TypeId} {W W' : World} (h : Typ B eB W) (hb : W'.heap[B]? = W.heap[B]?) : Typ B eB W' := by
  obtain ⟨c, f, h⟩ := h
  exact ⟨c, f, hb.trans h⟩
theorem Typ.set {B : Nat} {eB : TypeId} {W : World} (h : Typ B eB W) (p : Addr) (v : Value) : Typ B eB (W.setCell p v) := by
  obtain ⟨c, f, h⟩ := h
  by_cases e : p.block = B
  · refine ⟨if p.spot.isSome then c else c.setIfInBounds p.off v, f, ?_⟩
    show (W.heap.modify p.block _)[B]? = _
    rw [Array.getElem?_modify, if_pos e, h]
    rfl
  · exact ⟨c, f, (Below.heap_setCell W p v B (fun x => e x.symm)).trans h⟩

/-- How operation i of such a region may turn the world: the reader, the box; the list's own block by the append alone. -/
def TA (R B : Nat) (ob : Option Nat) (ap i : Nat) (W W' : World) : Prop := W.heap.size ≤ W'.heap.size ∧ ∀ b, b < W.heap.size → b ≠ R → b ≠ B → (i = ap → some b ≠ ob) → W'.heap[b]? = W.heap[b]?
theorem TA.refl (R B : Nat) (ob : Option Nat) (ap i : Nat) (W : World) : TA R B ob ap i W W := ⟨Nat.le_refl _, fun _ _ _ _ _ => rfl⟩
theorem TA.of {R B : Nat} {ob : Option Nat} {ap i : Nat} {W W' : World} (g : W.grownBy W' (some R)) : TA R B ob ap i W W' := ⟨g.size, fun b hb h1 _ _ => g.block b hb (fun e => h1 (by injection e))⟩
theorem TA.app {R B : Nat} {ob : Option Nat} {ap : Nat} {W W' : World} (g : W.grownBy W' ob) : TA R B ob ap ap W W' := ⟨g.size, fun b hb _ _ h => g.block b hb (h rfl)⟩
theorem TA.sto {R B o : Nat} {ob : Option Nat} {ap i : Nat} {W : World} {v : Value} : TA R B ob ap i W (W.setCell ⟨B, o, none⟩ v) := ⟨by simp [World.setCell], fun b _ _ h2 _ => Below.heap_setCell W _ v b h2⟩
/-- The one step that is appended, in a block of its own. -/
def New1 (R B N : Nat) (ob : Option Nat) (v : Value) (W : World) : Prop := ∃ g x0 x1 x2 x3 x4 x5 x6 x7, v = .slice (some ⟨g, 0, none⟩) 1 1 ∧ N ≤ g ∧ g < W.heap.size ∧ g ≠ R ∧ g ≠ B ∧ ob ≠ some g ∧ (IsI x0 ∧ IsI x1 ∧ IsI x2 ∧ IsI x3 ∧ IsI x4 ∧ IsI x5 ∧ IsI x6 ∧ IsI x7) ∧ ∀ j u, [x0, x1, x2, x3, x4, x5, x6, x7][j]? = some u → W.cell? ⟨g, j, none⟩ = some u
theorem New1.next {R B N ap i : Nat} {ob : Option Nat} {v : Value} {W W' : World} (h : New1 R B N ob v W) (t : TA R B ob ap i W W') : New1 R B N ob v W' := by
  obtain ⟨g, x0, x1, x2, x3, x4, x5, x6, x7, e, h1, h2, h3, h4, h5, h6, h7⟩ := h
  have hb := t.2 g h2 h3 h4 (fun _ e => h5 e.symm)
  exact ⟨g, x0, x1, x2, x3, x4, x5, x6, x7, e, h1, Nat.lt_of_lt_of_le h2 t.1, h3, h4, h5, h6, fun j u hu => (World.cell?_of_block (a := ⟨g, j, none⟩) hb).trans (h7 j u hu)⟩
theorem New1.made {R B N : Nat} {ob : Option Nat} {W : World} {t : TypeId} {x0 x1 x2 x3 x4 x5 x6 x7 : Value} (hN : N ≤ W.heap.size) (hR : R < W.heap.size) (hB : B < W.heap.size) (ho : ∀ g, ob = some g → g < W.heap.size) (i0 : IsI x0) (i1 : IsI x1) (i2 : IsI x2) (i3 : IsI x3) (i4 : IsI x4) (i5 : IsI x5) (i6 : IsI x6) (i7 : IsI x7) : New1 R B N ob (.slice (some ⟨W.heap.size, 0, none⟩) 1 1) (W.alloc (.cells #[x0, x1, x2, x3, x4, x5, x6, x7] t)) :=
  ⟨W.heap.size, x0, x1, x2, x3, x4, x5, x6, x7, rfl, hN, by simp, by omega, by omega, fun e => by have := ho _ e; omega, ⟨i0, i1, i2, i3, i4, i5, i6, i7⟩, fun j u hu => by
    unfold World.cell?
    rw [heap_alloc_new]
    simpa using hu⟩
/-- The list behind the append. -/
def AppV (N : Nat) (e : TypeId) (k R B : Nat) (v : Value) (W : World) : Prop := OwnI N e v k W ∧ v.ownBlock ≠ some R ∧ v.ownBlock ≠ some B
theorem AppV.next {N k R B ap i : Nat} {e : TypeId} {ob : Option Nat} {v : Value} {W W' : World} (h : AppV N e k R B v W) (t : TA R B ob ap i W W') (hi : i ≠ ap) : AppV N e k R B v W' :=
  ⟨h.1.keep fun g hg => t.2 g (h.1.blk hg).2.1 (fun x => h.2.1 (by rw [hg, x])) (fun x => h.2.2 (by rw [hg, x])) (fun x => absurd x hi), h.2⟩

/-- What such a region holds: the reader with its budget, the cells F, the box's cell, the list. ap: the append, st: the store. -/
structure ApS (w : World) (R : Nat) (a : Option Addr) (m c : Nat) (z : Nat → Int) (Q K n : Nat) (F : List Sp) (B T o N : Nat) (eB e : TypeId) (cv : Value) (k ap st : Nat) (L : Nat → Bool) (W : World) : Prop where
  ds : DS w R a m c z Q K n F L W
  lB : B < W.heap.size
  typ : Typ B eB W
  lT : T < W.heap.size
  typT : Typ T eB W
  free : W.frozen? ⟨B, o, none⟩ = false
  cell : L st = false → W.cell? ⟨B, o, none⟩ = some cv
  own : L ap = false → OwnI N e cv k W
  done : L st = true → ∃ v, W.cell? ⟨B, o, none⟩ = some v ∧ OwnI N e v (k + 1) W
theorem ApS.next {w : World} {R : Nat} {a : Option Addr} {m c : Nat} {z : Nat → Int} {Q K n : Nat} {F : List Sp} {B T o N : Nat} {eB e : TypeId} {cv : Value} {k ap st : Nat} {L : Nat → Bool} {W W' : World} (h : ApS w R a m c z Q K n F B T o N eB e cv k ap st L W) {i : Nat} (hia : i ≠ ap) (his : i ≠ st) (hBR : B ≠ R) (hTR : T ≠ R) (hRN : R < N) (g : W.grownBy W' (some R)) (hd : DS w R a m c z Q K n F (upd L i true) W') : ApS w R a m c z Q K n F B T o N eB e cv k ap st (upd L i true) W' := by
  have hb : W'.heap[B]? = W.heap[B]? := g.block B h.lB (fun e => hBR (by injection e))
  have ht : W'.heap[T]? = W.heap[T]? := g.block T h.lT (fun e => hTR (by injection e))
  refine ⟨hd, Nat.lt_of_lt_of_le h.lB g.size, h.typ.keep hb, Nat.lt_of_lt_of_le h.lT g.size, h.typT.keep ht, (World.frozen?_of_block (a := ⟨B, o, none⟩) hb).trans h.free, fun hl => ?_, fun hl => ?_, fun hl => ?_⟩
  · rw [upd_other _ _ (Ne.symm his)] at hl
    exact (World.cell?_of_block (a := ⟨B, o, none⟩) hb).trans (h.cell hl)
  · rw [upd_other _ _ (Ne.symm hia)] at hl
    exact (h.own hl).grown hRN g
  · rw [upd_other _ _ (Ne.symm his)] at hl
    obtain ⟨v, h1, h2⟩ := h.done hl
    exact ⟨v, (World.cell?_of_block (a := ⟨B, o, none⟩) hb).trans h1, h2.grown hRN g⟩
theorem grownBy_refl (W : World) (r : Option Nat) : W.grownBy W r := ⟨rfl, rfl, rfl, Nat.le_refl _, fun _ _ _ => rfl⟩
theorem ApS.pure {w : World} {R : Nat} {a : Option Addr} {m c : Nat} {z : Nat → Int} {Q K n : Nat} {F : List Sp} {B T o N : Nat} {eB e : TypeId} {cv : Value} {k ap st : Nat} {L : Nat → Bool} {W : World} (h : ApS w R a m c z Q K n F B T o N eB e cv k ap st L W) {i : Nat} (hL : L i = false) (hi : i < n) (hia : i ≠ ap) (his : i ≠ st) (hBR : B ≠ R) (hTR : T ≠ R) (hRN : R < N) : ApS w R a m c z Q K n F B T o N eB e cv k ap st (upd L i true) W :=
  h.next hia his hBR hTR hRN (grownBy_refl _ _) (h.ds.pure hL hi)
theorem ApS.alloc {w : World} {R : Nat} {a : Option Addr} {m c : Nat} {z : Nat → Int} {Q K n : Nat} {F : List Sp} {B T o N : Nat} {eB e : TypeId} {cv : Value} {k ap st : Nat} {L : Nat → Bool} {W : World} (h : ApS w R a m c z Q K n F B T o N eB e cv k ap st L W) {i : Nat} (hL : L i = false) (hi : i < n) (hia : i ≠ ap) (his : i ≠ st) (hBR : B ≠ R) (hTR : T ≠ R) (hRN : R < N) (ob : Obj) : ApS w R a m c z Q K n F B T o N eB e cv k ap st (upd L i true) (W.alloc ob) :=
  h.next hia his hBR hTR hRN (World.grownBy_alloc _ _ _) (h.ds.alloc hL hi ob)
theorem ApS.call {w : World} {R : Nat} {a : Option Addr} {m c : Nat} {z : Nat → Int} {Q K n : Nat} {F : List Sp} {B T o N : Nat} {eB e : TypeId} {cv : Value} {k ap st : Nat} {L : Nat → Bool} {W W' : World} (h : ApS w R a m c z Q K n F B T o N eB e cv k ap st L W) {i p : Nat} (hL : L i = false) (hi : i < n) (hia : i ≠ ap) (his : i ≠ st) (hBR : B ≠ R) (hTR : T ≠ R) (hRN : R < N) (hr : Rd W' R a m c z p) (g : W.grownBy W' (some R)) (hp : p ≤ Q + K * cnt L n + K) : ApS w R a m c z Q K n F B T o N eB e cv k ap st (upd L i true) W' :=
  h.next hia his hBR hTR hRN g (h.ds.call hL hi hr g hp)
theorem ApS.app {w : World} {R : Nat} {a : Option Addr} {m c : Nat} {z : Nat → Int} {Q K n : Nat} {F : List Sp} {B T o N : Nat} {eB e : TypeId} {cv : Value} {k ap st : Nat} {L : Nat → Bool} {W W' : World} (h : ApS w R a m c z Q K n F B T o N eB e cv k ap st L W) (hL : L ap = false) (hn : ap < n) (hs : L st = false) (hne : st ≠ ap) (he : eB ≠ e) (hRN : R < N) (hwN : w.heap.size ≤ N) (hF : ∀ f ∈ F, f.b = B ∨ f.b = T) (g : W.grownBy W' cv.ownBlock) : ApS w R a m c z Q K n F B T o N eB e cv k ap st (upd L ap true) W' := by
  have ho := h.own hL
  have hob := h.typ.ne ho he
  have hobT := h.typT.ne ho he
  have ht : W'.heap[T]? = W.heap[T]? := g.block T h.lT (fun e => hobT e.symm)
  have hb : W'.heap[B]? = W.heap[B]? := g.block B h.lB (fun e => hob e.symm)
  obtain ⟨p, hp, hr⟩ := h.ds.rd
  have hlt : ∀ j, cv.ownBlock = some j → N ≤ j := fun j hj => (ho.blk hj).1
  have d1 : DS w R a m c z Q K n F L W' := ⟨⟨p, hp, hr.kept g (fun j hj => by have := hlt j hj; omega)⟩, grown_own h.ds.grown g (fun j hj => by have := hlt j hj; omega), fun f hf => by
    obtain ⟨h1, h2, h3, h4, v, h5, h6⟩ := h.ds.fs f hf
    have hfb : W'.heap[f.b]? = W.heap[f.b]? := by
      rcases hF f hf with x | x
      · rw [x]; exact hb
      · rw [x]; exact ht
    exact ⟨h1, h2, Nat.lt_of_lt_of_le h3 g.size, (World.frozen?_of_block (a := ⟨f.b, f.o, none⟩) hfb).trans h4, v, (World.cell?_of_block (a := ⟨f.b, f.o, none⟩) hfb).trans h5, h6⟩⟩
  refine ⟨d1.pure hL hn, Nat.lt_of_lt_of_le h.lB g.size, h.typ.keep hb, Nat.lt_of_lt_of_le h.lT g.size, h.typT.keep ht, (World.frozen?_of_block (a := ⟨B, o, none⟩) hb).trans h.free, fun _ => (World.cell?_of_block (a := ⟨B, o, none⟩) hb).trans (h.cell hs), fun hl => ?_, fun hl => ?_⟩
  · rw [upd_same] at hl; cases hl
  · rw [upd_other _ _ hne, hs] at hl; cases hl
theorem ApS.sto {w : World} {R : Nat} {a : Option Addr} {m c : Nat} {z : Nat → Int} {Q K n : Nat} {F : List Sp} {B T o N : Nat} {eB e : TypeId} {cv : Value} {k ap st : Nat} {L : Nat → Bool} {W : World} (h : ApS w R a m c z Q K n F B T o N eB e cv k ap st L W) (hL : L st = false) (hn : st < n) (hap : L ap = true) (hne : st ≠ ap) (hBR : B ≠ R) (hw : w.heap.size ≤ B) (hF : ∀ f ∈ F, f.b = B → f.o ≠ o) (hold : Old w a m) {v : Value} (hv : AppV N e (k + 1) R B v W) (hc : (W.cell? ⟨B, o, none⟩).isSome = true) : ApS w R a m c z Q K n F B T o N eB e cv k ap st (upd L st true) (W.setCell ⟨B, o, none⟩ v) := by
  refine ⟨(h.ds.set hold hBR hw (fun f hf hfb h => absurd h (hF f hf hfb))).pure hL hn, by simpa [World.setCell] using h.lB, h.typ.set _ _, by simpa [World.setCell] using h.lT, h.typT.set _ _, (World.frozen?_setCell ..).trans h.free, fun hl => ?_, fun hl => ?_, fun _ => ⟨v, cell_set hc, hv.1.keep fun g hg => Below.heap_setCell W _ v g (fun x => hv.2.2 (by rw [hg, x]))⟩⟩
  · rw [upd_same] at hl; cases hl
  · rw [upd_other _ _ (Ne.symm hne), hap] at hl; cases hl
/-- What must be done ahead of the append and of the store. -/
def Ord (ld bs ap st : Nat) (L : Nat → Bool) : Prop := (L st = true → L ld = true ∧ L ap = true) ∧ (L ap = true → L bs = true)
theorem upd_up {L : Nat → Bool} {i j : Nat} (h : L j = true) : upd L i true j = true := by
  by_cases e : j = i
  · subst e; exact upd_same _ _ _
  · rw [upd_other _ _ e]; exact h
theorem Ord.start (ld bs ap st : Nat) : Ord ld bs ap st (fun _ => false) := ⟨(fun h => by cases h), (fun h => by cases h)⟩
theorem Ord.step {ld bs ap st i : Nat} {L : Nat → Bool} (h : Ord ld bs ap st L) (h1 : i ≠ st) (h2 : i ≠ ap) : Ord ld bs ap st (upd L i true) := by
  refine ⟨fun k => ?_, fun k => ?_⟩
  · rw [upd_other _ _ (Ne.symm h1)] at k
    exact ⟨upd_up (h.1 k).1, upd_up (h.1 k).2⟩
  · rw [upd_other _ _ (Ne.symm h2)] at k
    exact upd_up (h.2 k)
theorem Ord.app {ld bs ap st : Nat} {L : Nat → Bool} (h : Ord ld bs ap st L) (h1 : ap ≠ st) (hb : L bs = true) : Ord ld bs ap st (Go.Proofs.YtiehokibfdaleaaDoor.upd L ap true) := by
  refine ⟨fun k => ?_, fun _ => upd_up hb⟩
  rw [upd_other _ _ (Ne.symm h1)] at k
  exact ⟨upd_up (h.1 k).1, upd_up (h.1 k).2⟩
theorem Ord.sto {ld bs ap st : Nat} {L : Nat → Bool} (h : Ord ld bs ap st L) (hl : L ld = true) (ha : L ap = true) : Ord ld bs ap st (Go.Proofs.YtiehokibfdaleaaDoor.upd L st true) := ⟨fun _ => ⟨upd_up hl, upd_up ha⟩, fun _ => upd_up (h.2 ha)⟩
end Go.Proofs.YtiehokibfdaleaaDoor
