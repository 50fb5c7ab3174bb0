/- Blocks of eight ints beside a reader: stored into, read; tables that a region makes. No program in it. -/
import Derived.Test.YtiehokibfdaleaaDrawSt
import Derived.Test.YtiehokibfdaleaaDrawItv
namespace Go.Proofs.Ytiehokibfdaleaa
open Go.ChangeShapes Go.WideShapes Go.ChangeAt Go.RowKit

/-- Some step: eight ints. -/
def IsIns (v : Value) : Prop := ∃ x0 x1 x2 x3 x4 x5 x6 x7 : Int, v = .agg #[.int .i64 x0, .int .i64 x1, .int .i64 x2, .int .i64 x3, .int .i64 x4, .int .i64 x5, .int .i64 x6, .int .i64 x7] ∧ I64 x0 ∧ I64 x1 ∧ I64 x2 ∧ I64 x3 ∧ I64 x4 ∧ I64 x5 ∧ I64 x6 ∧ I64 x7
theorem old_rd {w : World} {R : Nat} {a : Option Addr} {m c : Nat} {z : Nat → Int} {p : Nat} (h : Rd w R a m c z p) : Old w a m := by
  rcases h.row with h0 | ⟨b, off, e, hb, _⟩
  · exact .inl h0
  · refine .inr fun b' off' e' => ?_
    rw [e] at e'
    injection e' with e'
    injection e' with e'
    have := h.size
    omega
theorem Dr.set8 {w : World} {R : Nat} {a : Option Addr} {m c : Nat} {z : Nat → Int} {Q : Nat} {F : List Sp} {W : World} (h : Dr w R a m c z Q F W) (ho : Old w a m) {B : Nat} (hB : B ≠ R) (hw : w.heap.size ≤ B) (hv : ∀ v, IsI v → ∀ f ∈ F, f.b = B → f.P v) {v0 v1 v2 v3 v4 v5 v6 v7 : Value} (i0 : IsI v0) (i1 : IsI v1) (i2 : IsI v2) (i3 : IsI v3) (i4 : IsI v4) (i5 : IsI v5) (i6 : IsI v6) (i7 : IsI v7) : Dr w R a m c z Q F ((((((((W.setCell ⟨B, 0, none⟩ v0).setCell ⟨B, 1, none⟩ v1).setCell ⟨B, 2, none⟩ v2).setCell ⟨B, 3, none⟩ v3).setCell ⟨B, 4, none⟩ v4).setCell ⟨B, 5, none⟩ v5).setCell ⟨B, 6, none⟩ v6).setCell ⟨B, 7, none⟩ v7) :=
  (((((((h.set ho hB hw (fun f hf hb _ => hv _ i0 f hf hb)).set ho hB hw (fun f hf hb _ => hv _ i1 f hf hb)).set ho hB hw (fun f hf hb _ => hv _ i2 f hf hb)).set ho hB hw (fun f hf hb _ => hv _ i3 f hf hb)).set ho hB hw (fun f hf hb _ => hv _ i4 f hf hb)).set ho hB hw (fun f hf hb _ => hv _ i5 f hf hb)).set ho hB hw (fun f hf hb _ => hv _ i6 f hf hb)).set ho hB hw (fun f hf hb _ => hv _ i7 f hf hb)
theorem Dr.at8 {w : World} {R : Nat} {a : Option Addr} {m c : Nat} {z : Nat → Int} {Q : Nat} {F : List Sp} {W : World} (h : Dr w R a m c z Q F W) {B : Nat} (hF : ∀ i, i < 8 → (⟨B, i, IsI⟩ : Sp) ∈ F) : ∃ x0 x1 x2 x3 x4 x5 x6 x7 : Int, (W.cell? ⟨B, 0, none⟩ = some (.int .i64 x0) ∧ W.cell? ⟨B, 1, none⟩ = some (.int .i64 x1) ∧ W.cell? ⟨B, 2, none⟩ = some (.int .i64 x2) ∧ W.cell? ⟨B, 3, none⟩ = some (.int .i64 x3) ∧ W.cell? ⟨B, 4, none⟩ = some (.int .i64 x4) ∧ W.cell? ⟨B, 5, none⟩ = some (.int .i64 x5) ∧ W.cell? ⟨B, 6, none⟩ = some (.int .i64 x6) ∧ W.cell? ⟨B, 7, none⟩ = some (.int .i64 x7)) ∧ (I64 x0 ∧ I64 x1 ∧ I64 x2 ∧ I64 x3 ∧ I64 x4 ∧ I64 x5 ∧ I64 x6 ∧ I64 x7) := by
  obtain ⟨_, c0, y0, rfl, k0⟩ := h.has (hF 0 (by omega))
  obtain ⟨_, c1, y1, rfl, k1⟩ := h.has (hF 1 (by omega))
  obtain ⟨_, c2, y2, rfl, k2⟩ := h.has (hF 2 (by omega))
  obtain ⟨_, c3, y3, rfl, k3⟩ := h.has (hF 3 (by omega))
  obtain ⟨_, c4, y4, rfl, k4⟩ := h.has (hF 4 (by omega))
  obtain ⟨_, c5, y5, rfl, k5⟩ := h.has (hF 5 (by omega))
  obtain ⟨_, c6, y6, rfl, k6⟩ := h.has (hF 6 (by omega))
  obtain ⟨_, c7, y7, rfl, k7⟩ := h.has (hF 7 (by omega))
  exact ⟨y0, y1, y2, y3, y4, y5, y6, y7, ⟨c0, c1, c2, c3, c4, c5, c6, c7⟩, ⟨k0, k1, k2, k3, k4, k5, k6, k7⟩⟩
theorem Dr.free8 {w : World} {R : Nat} {a : Option Addr} {m c : Nat} {z : Nat → Int} {Q : Nat} {F : List Sp} {W : World} (h : Dr w R a m c z Q F W) {B : Nat} (hF : ∀ i, i < 8 → (⟨B, i, IsI⟩ : Sp) ∈ F) : W.frozen? ⟨B, 0, none⟩ = false ∧ W.frozen? ⟨B, 1, none⟩ = false ∧ W.frozen? ⟨B, 2, none⟩ = false ∧ W.frozen? ⟨B, 3, none⟩ = false ∧ W.frozen? ⟨B, 4, none⟩ = false ∧ W.frozen? ⟨B, 5, none⟩ = false ∧ W.frozen? ⟨B, 6, none⟩ = false ∧ W.frozen? ⟨B, 7, none⟩ = false :=
  ⟨h.free (hF 0 (by omega)), h.free (hF 1 (by omega)), h.free (hF 2 (by omega)), h.free (hF 3 (by omega)), h.free (hF 4 (by omega)), h.free (hF 5 (by omega)), h.free (hF 6 (by omega)), h.free (hF 7 (by omega))⟩
theorem own8 {W : World} {B : Nat} {u0 u1 u2 u3 u4 u5 u6 u7 : Value} (k0 : W.cell? ⟨B, 0, none⟩ = some u0) (k1 : W.cell? ⟨B, 1, none⟩ = some u1) (k2 : W.cell? ⟨B, 2, none⟩ = some u2) (k3 : W.cell? ⟨B, 3, none⟩ = some u3) (k4 : W.cell? ⟨B, 4, none⟩ = some u4) (k5 : W.cell? ⟨B, 5, none⟩ = some u5) (k6 : W.cell? ⟨B, 6, none⟩ = some u6) (k7 : W.cell? ⟨B, 7, none⟩ = some u7) :
    (∀ x0, (W.setCell ⟨B, 0, none⟩ x0).cell? ⟨B, 0, none⟩ = some x0) ∧ (∀ x0 x1, ((W.setCell ⟨B, 0, none⟩ x0).setCell ⟨B, 1, none⟩ x1).cell? ⟨B, 1, none⟩ = some x1) ∧ (∀ x0 x1 x2, (((W.setCell ⟨B, 0, none⟩ x0).setCell ⟨B, 1, none⟩ x1).setCell ⟨B, 2, none⟩ x2).cell? ⟨B, 2, none⟩ = some x2) ∧ (∀ x0 x1 x2 x3, ((((W.setCell ⟨B, 0, none⟩ x0).setCell ⟨B, 1, none⟩ x1).setCell ⟨B, 2, none⟩ x2).setCell ⟨B, 3, none⟩ x3).cell? ⟨B, 3, none⟩ = some x3) ∧ (∀ x0 x1 x2 x3 x4, (((((W.setCell ⟨B, 0, none⟩ x0).setCell ⟨B, 1, none⟩ x1).setCell ⟨B, 2, none⟩ x2).setCell ⟨B, 3, none⟩ x3).setCell ⟨B, 4, none⟩ x4).cell? ⟨B, 4, none⟩ = some x4) ∧ (∀ x0 x1 x2 x3 x4 x5, ((((((W.setCell ⟨B, 0, none⟩ x0).setCell ⟨B, 1, none⟩ x1).setCell ⟨B, 2, none⟩ x2).setCell ⟨B, 3, none⟩ x3).setCell ⟨B, 4, none⟩ x4).setCell ⟨B, 5, none⟩ x5).cell? ⟨B, 5, none⟩ = some x5) ∧ (∀ x0 x1 x2 x3 x4 x5 x6, (((((((W.setCell ⟨B, 0, none⟩ x0).setCell ⟨B, 1, none⟩ x1).setCell ⟨B, 2, none⟩ x2).setCell ⟨B, 3, none⟩ x3).setCell ⟨B, 4, none⟩ x4).setCell ⟨B, 5, none⟩ x5).setCell ⟨B, 6, none⟩ x6).cell? ⟨B, 6, none⟩ = some x6) ∧ (∀ x0 x1 x2 x3 x4 x5 x6 x7, ((((((((W.setCell ⟨B, 0, none⟩ x0).setCell ⟨B, 1, none⟩ x1).setCell ⟨B, 2, none⟩ x2).setCell ⟨B, 3, none⟩ x3).setCell ⟨B, 4, none⟩ x4).setCell ⟨B, 5, none⟩ x5).setCell ⟨B, 6, none⟩ x6).setCell ⟨B, 7, none⟩ x7).cell? ⟨B, 7, none⟩ = some x7) := by
  refine ⟨?_, ?_, ?_, ?_, ?_, ?_, ?_, ?_⟩
  · intro x0
    refine World.cell?_setCell_same _ _ _ (u := u0) ?_
    exact k0
  · intro x0 x1
    refine World.cell?_setCell_same _ _ _ (u := u1) ?_
    rw [World.cell?_setCell_other _ _ _ _ (by simp)]
    exact k1
  · intro x0 x1 x2
    refine World.cell?_setCell_same _ _ _ (u := u2) ?_
    rw [World.cell?_setCell_other _ _ _ _ (by simp), World.cell?_setCell_other _ _ _ _ (by simp)]
    exact k2
  · intro x0 x1 x2 x3
    refine World.cell?_setCell_same _ _ _ (u := u3) ?_
    rw [World.cell?_setCell_other _ _ _ _ (by simp), World.cell?_setCell_other _ _ _ _ (by simp), World.cell?_setCell_other _ _ _ _ (by simp)]
    exact k3
  · intro x0 x1 x2 x3 x4
    refine World.cell?_setCell_same _ _ _ (u := u4) ?_
    rw [World.cell?_setCell_other _ _ _ _ (by simp), World.cell?_setCell_other _ _ _ _ (by simp), World.cell?_setCell_other _ _ _ _ (by simp), World.cell?_setCell_other _ _ _ _ (by simp)]
    exact k4
  · intro x0 x1 x2 x3 x4 x5
    refine World.cell?_setCell_same _ _ _ (u := u5) ?_
    rw [World.cell?_setCell_other _ _ _ _ (by simp), World.cell?_setCell_other _ _ _ _ (by simp), World.cell?_setCell_other _ _ _ _ (by simp), World.cell?_setCell_other _ _ _ _ (by simp), World.cell?_setCell_other _ _ _ _ (by simp)]
    exact k5
  · intro x0 x1 x2 x3 x4 x5 x6
    refine World.cell?_setCell_same _ _ _ (u := u6) ?_
    rw [World.cell?_setCell_other _ _ _ _ (by simp), World.cell?_setCell_other _ _ _ _ (by simp), World.cell?_setCell_other _ _ _ _ (by simp), World.cell?_setCell_other _ _ _ _ (by simp), World.cell?_setCell_other _ _ _ _ (by simp), World.cell?_setCell_other _ _ _ _ (by simp)]
    exact k6
  · intro x0 x1 x2 x3 x4 x5 x6 x7
    refine World.cell?_setCell_same _ _ _ (u := u7) ?_
    rw [World.cell?_setCell_other _ _ _ _ (by simp), World.cell?_setCell_other _ _ _ _ (by simp), World.cell?_setCell_other _ _ _ _ (by simp), World.cell?_setCell_other _ _ _ _ (by simp), World.cell?_setCell_other _ _ _ _ (by simp), World.cell?_setCell_other _ _ _ _ (by simp), World.cell?_setCell_other _ _ _ _ (by simp)]
    exact k7
/-- A new block of eight ints. -/
theorem Dr.new8 {w : World} {R : Nat} {a : Option Addr} {m c : Nat} {z : Nat → Int} {Q : Nat} {F : List Sp} {W : World} (h : Dr w R a m c z Q F W) {v0 v1 v2 v3 v4 v5 v6 v7 : Value} {t : TypeId} (i0 : IsI v0) (i1 : IsI v1) (i2 : IsI v2) (i3 : IsI v3) (i4 : IsI v4) (i5 : IsI v5) (i6 : IsI v6) (i7 : IsI v7) : Dr w R a m c z Q (⟨W.heap.size, 0, IsI⟩ :: ⟨W.heap.size, 1, IsI⟩ :: ⟨W.heap.size, 2, IsI⟩ :: ⟨W.heap.size, 3, IsI⟩ :: ⟨W.heap.size, 4, IsI⟩ :: ⟨W.heap.size, 5, IsI⟩ :: ⟨W.heap.size, 6, IsI⟩ :: ⟨W.heap.size, 7, IsI⟩ :: F) (W.alloc (.cells #[v0, v1, v2, v3, v4, v5, v6, v7] t)) := by
  obtain ⟨p, hp, hr⟩ := h.rd
  have hR := hr.size
  have hs := h.grown.size
  refine ⟨⟨p, hp, hr.kept (World.grownBy_alloc _ _ none) (by simp)⟩, grown_trans h.grown (World.grownBy_alloc _ _ _), ?_⟩
  refine Fs.cons (by show W.heap.size ≠ R; omega) hs (by show W.heap.size < _; simp) (by simp [go_sem]) (v := v0) (by simp [go_sem]) i0 ?_
  refine Fs.cons (by show W.heap.size ≠ R; omega) hs (by show W.heap.size < _; simp) (by simp [go_sem]) (v := v1) (by simp [go_sem]) i1 ?_
  refine Fs.cons (by show W.heap.size ≠ R; omega) hs (by show W.heap.size < _; simp) (by simp [go_sem]) (v := v2) (by simp [go_sem]) i2 ?_
  refine Fs.cons (by show W.heap.size ≠ R; omega) hs (by show W.heap.size < _; simp) (by simp [go_sem]) (v := v3) (by simp [go_sem]) i3 ?_
  refine Fs.cons (by show W.heap.size ≠ R; omega) hs (by show W.heap.size < _; simp) (by simp [go_sem]) (v := v4) (by simp [go_sem]) i4 ?_
  refine Fs.cons (by show W.heap.size ≠ R; omega) hs (by show W.heap.size < _; simp) (by simp [go_sem]) (v := v5) (by simp [go_sem]) i5 ?_
  refine Fs.cons (by show W.heap.size ≠ R; omega) hs (by show W.heap.size < _; simp) (by simp [go_sem]) (v := v6) (by simp [go_sem]) i6 ?_
  refine Fs.cons (by show W.heap.size ≠ R; omega) hs (by show W.heap.size < _; simp) (by simp [go_sem]) (v := v7) (by simp [go_sem]) i7 ?_
  exact h.fs.alloc _
/-- The first so many blocks keep their cells, but for the reader's and one that is stored into. -/
def Kp (R B : Nat) (_ : Nat) (W W' : World) : Prop := W.heap.size ≤ W'.heap.size ∧ ∀ b o, b < W.heap.size → b ≠ R → b ≠ B → W'.cell? ⟨b, o, none⟩ = W.cell? ⟨b, o, none⟩
theorem Kp.refl (R B i : Nat) (W : World) : Kp R B i W W := ⟨Nat.le_refl _, fun _ _ _ _ _ => rfl⟩
theorem Kp.of {R B i : Nat} {W W' : World} (g : W.grownBy W' (some R)) : Kp R B i W W' := ⟨g.size, fun b o h h1 _ => (gcell g).1 b o h h1⟩
theorem Kp.set8 {R B i : Nat} {W : World} {v0 v1 v2 v3 v4 v5 v6 v7 : Value} : Kp R B i W ((((((((W.setCell ⟨B, 0, none⟩ v0).setCell ⟨B, 1, none⟩ v1).setCell ⟨B, 2, none⟩ v2).setCell ⟨B, 3, none⟩ v3).setCell ⟨B, 4, none⟩ v4).setCell ⟨B, 5, none⟩ v5).setCell ⟨B, 6, none⟩ v6).setCell ⟨B, 7, none⟩ v7) := by
  refine ⟨by simp [World.setCell], fun b o _ _ hb => ?_⟩
  have n : ∀ j, (⟨B, j, none⟩ : Addr) ≠ ⟨b, o, none⟩ := fun j e => hb (by injection e with e; exact e.symm)
  rw [World.cell?_setCell_other _ _ _ _ (by first | exact n _ | exact (n _).symm), World.cell?_setCell_other _ _ _ _ (by first | exact n _ | exact (n _).symm), World.cell?_setCell_other _ _ _ _ (by first | exact n _ | exact (n _).symm), World.cell?_setCell_other _ _ _ _ (by first | exact n _ | exact (n _).symm), World.cell?_setCell_other _ _ _ _ (by first | exact n _ | exact (n _).symm), World.cell?_setCell_other _ _ _ _ (by first | exact n _ | exact (n _).symm), World.cell?_setCell_other _ _ _ _ (by first | exact n _ | exact (n _).symm), World.cell?_setCell_other _ _ _ _ (by first | exact n _ | exact (n _).symm)]
/-- A table of ints that the region made. -/
def TabN (R B n : Nat) (v : Value) (W : World) : Prop := ∃ g, v = .slice (some ⟨g, 0, none⟩) n n ∧ g < W.heap.size ∧ g ≠ R ∧ g ≠ B ∧ ∀ k, k < n → ∃ x, W.cell? ⟨g, k, none⟩ = some (.int .i64 x) ∧ I64 x
def Spt (R B : Nat) (v : Value) (W : World) : Prop := ∃ g k, v = .pointer (some ⟨g, k, none⟩) ∧ g < W.heap.size ∧ g ≠ R ∧ g ≠ B ∧ ∃ x, W.cell? ⟨g, k, none⟩ = some (.int .i64 x) ∧ I64 x
theorem TabN.next {R B n i : Nat} {v : Value} {W W' : World} (h : TabN R B n v W) (k : Kp R B i W W') : TabN R B n v W' := by
  obtain ⟨g, e, h1, h2, h3, h4⟩ := h
  refine ⟨g, e, Nat.lt_of_lt_of_le h1 k.1, h2, h3, fun j hj => ?_⟩
  obtain ⟨x, c, hx⟩ := h4 j hj
  exact ⟨x, (k.2 g j h1 h2 h3).trans c, hx⟩
theorem Spt.next {R B i : Nat} {v : Value} {W W' : World} (h : Spt R B v W) (k : Kp R B i W W') : Spt R B v W' := by
  obtain ⟨g, j, e, h1, h2, h3, x, c, hx⟩ := h
  exact ⟨g, j, e, Nat.lt_of_lt_of_le h1 k.1, h2, h3, x, (k.2 g j h1 h2 h3).trans c, hx⟩
theorem tabN_of {R B n : Nat} {W : World} {cs : Array Value} {t : TypeId} (hR : R < W.heap.size) (hB : B < W.heap.size) (hs : cs.size = n) (hall : cs.toList.all (inTab (-9223372036854775808) 9223372036854775807) = true) : TabN R B n (.slice (some ⟨W.heap.size, 0, none⟩) n n) (W.alloc (.cells cs t)) := by
  refine ⟨W.heap.size, rfl, by simp, by omega, by omega, fun k hk => ?_⟩
  obtain ⟨x, e, h1, h2⟩ := inTab_int (all_of hall k (by omega))
  exact ⟨x, by rw [cell_new W cs t k (by omega), e], h1, h2⟩
/-- A number below n. -/
def Nt (n : Int) (v : Value) : Prop := ∃ k : Int, 0 ≤ k ∧ k < n ∧ v = .int .i64 k
theorem DS.alloc {w : World} {R : Nat} {a : Option Addr} {m c : Nat} {z : Nat → Int} {Q K n : Nat} {F : List Sp} {L : Nat → Bool} {W : World} (h : DS w R a m c z Q K n F L W) {i : Nat} (hL : L i = false) (hi : i < n) (o : Obj) : DS w R a m c z Q K n F (upd L i true) (W.alloc o) := (h.below ((Below.refl _ _).alloc (Nat.le_refl _) o)).pure hL hi
theorem DS.set8 {w : World} {R : Nat} {a : Option Addr} {m c : Nat} {z : Nat → Int} {Q K n : Nat} {F : List Sp} {L : Nat → Bool} {W : World} (h : DS w R a m c z Q K n F L W) {i : Nat} (hL : L i = false) (hi : i < n) (ho : Old w a m) {B : Nat} (hB : B ≠ R) (hw : w.heap.size ≤ B) (hv : ∀ v, IsI v → ∀ f ∈ F, f.b = B → f.P v) {v0 v1 v2 v3 v4 v5 v6 v7 : Value} (i0 : IsI v0) (i1 : IsI v1) (i2 : IsI v2) (i3 : IsI v3) (i4 : IsI v4) (i5 : IsI v5) (i6 : IsI v6) (i7 : IsI v7) : DS w R a m c z Q K n F (upd L i true) ((((((((W.setCell ⟨B, 0, none⟩ v0).setCell ⟨B, 1, none⟩ v1).setCell ⟨B, 2, none⟩ v2).setCell ⟨B, 3, none⟩ v3).setCell ⟨B, 4, none⟩ v4).setCell ⟨B, 5, none⟩ v5).setCell ⟨B, 6, none⟩ v6).setCell ⟨B, 7, none⟩ v7) := (show DS w R a m c z Q K n F L _ from Dr.set8 h ho hB hw hv i0 i1 i2 i3 i4 i5 i6 i7).pure hL hi
/-- Some step was drawn. -/
def DIns (R : Nat) (a : Option Addr) (m c : Nat) (z : Nat → Int) (p : Nat) (w : World) (e : Ending) (w' : World) : Prop := ∃ (v : Value) (p' : Nat), IsIns v ∧ e = .returned v ∧ p' ≤ p + 80 ∧ Rd w' R a m c z p' ∧ w.grownBy w' (some R)
end Go.Proofs.Ytiehokibfdaleaa
