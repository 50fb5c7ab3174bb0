/- What the drawing functions of bounds answer over a reader: some two ints. · Bounds, plainly, no program in it: what chapter 2's functions answer, as functions of the ends. · Contracts of chapter 2's functions: the model's (S). Each answers what the plain functions say, whatever the ends are; it makes memory of its own alone. · Words for what is known of a value in a region. No program in it. -/
import Derived.Test.YtiehokibfdaleaaG1
import Derived.Test.YtiehokibfdaleaaG2
import Derived.WalkKit
import Derived.ProofKit
import Derived.OpenShut
import Derived.Below
namespace Go.Proofs.Ytiehokibfdaleaa
open Go.ChangeShapes Go.WideShapes Go.ChangeAt Go.RowKit

def I64 (x : Int) : Prop := -9223372036854775808 ≤ x ∧ x ≤ 9223372036854775807
theorem gcell {R : Nat} {W w1 : World} (g : W.grownBy w1 (some R)) : (∀ b o, b < W.heap.size → b ≠ R → w1.cell? ⟨b, o, none⟩ = W.cell? ⟨b, o, none⟩) ∧ (∀ b o, b < W.heap.size → b ≠ R → w1.frozen? ⟨b, o, none⟩ = W.frozen? ⟨b, o, none⟩) := by
  have k : ∀ b, b < W.heap.size → b ≠ R → w1.heap[b]? = W.heap[b]? := fun b h hne => g.block b h (fun e => hne (by injection e))
  exact ⟨fun b o h hne => by unfold World.cell?; rw [k b h hne], fun b o h hne => World.frozen?_of_block (k b h hne)⟩
theorem grown_refl (w : World) (row : Option Nat) : w.grownBy w row := ⟨rfl, rfl, rfl, Nat.le_refl _, fun _ _ _ => rfl⟩
theorem grown_drew (w : World) (row : Option Nat) : w.grownBy w.drew row := ⟨rfl, rfl, rfl, Nat.le_refl _, fun _ _ _ => rfl⟩
theorem Rd.drew {w : World} {R : Nat} {a : Option Addr} {m c : Nat} {z : Nat → Int} {p : Nat} (h : Rd w R a m c z p) : Rd w.drew R a m c z p := h.kept (row := none) (grown_drew w none) (by simp)
/-- A list of five ints that lies somewhere of its own. -/
def Five (R B : Nat) (v : Value) (W : World) : Prop := ∃ g, v = .slice (some ⟨g, 0, none⟩) 5 5 ∧ R < g ∧ g < W.heap.size ∧ g ≠ B ∧ ∀ k, k < 5 → ∃ n, W.cell? ⟨g, k, none⟩ = some (.int .i64 n) ∧ I64 n

/-- Some two ints were drawn; the reader is a little further on; nothing else old has turned. -/
def DItv (R : Nat) (a : Option Addr) (m c : Nat) (z : Nat → Int) (p : Nat) (w : World) (e : Ending) (w' : World) : Prop := ∃ (x y : Int) (p' : Nat), I64 x ∧ I64 y ∧ e = .returned (.agg #[.int .i64 x, .int .i64 y]) ∧ p' ≤ p + 20 ∧ Rd w' R a m c z p' ∧ w.grownBy w' (some R)
/-- A place of an int that the region made itself. -/
def Spotted (R B : Nat) (v : Value) (W : World) : Prop := ∃ g n, v = .pointer (some ⟨g, n, none⟩) ∧ R < g ∧ g < W.heap.size ∧ g ≠ B ∧ ∃ y, W.cell? ⟨g, n, none⟩ = some (.int .i64 y) ∧ I64 y
/-- Two ints lie in block B. -/
def TwoIn (B : Nat) (W : World) : Prop := B < W.heap.size ∧ ∃ x y, W.cell? ⟨B, 0, none⟩ = some (.int .i64 x) ∧ W.cell? ⟨B, 1, none⟩ = some (.int .i64 y) ∧ I64 x ∧ I64 y
/-- A block for two values, that may be written. -/
def BoxIn (B : Nat) (W : World) : Prop := B < W.heap.size ∧ (∃ u, W.cell? ⟨B, 0, none⟩ = some u) ∧ (∃ u, W.cell? ⟨B, 1, none⟩ = some u) ∧ ∀ i, W.frozen? ⟨B, i, none⟩ = false
/-- All old blocks but R are as they were; block B, too, but behind operation s. -/
def Kept (R B s : Nat) (i : Nat) (W W' : World) : Prop := W.heap.size ≤ W'.heap.size ∧ (∀ b, b < W.heap.size → b ≠ R → b ≠ B → W'.heap[b]? = W.heap[b]?) ∧ (i ≠ s → W'.heap[B]? = W.heap[B]?)
theorem cell_same {W W' : World} {b o : Nat} (h : W'.heap[b]? = W.heap[b]?) : W'.cell? ⟨b, o, none⟩ = W.cell? ⟨b, o, none⟩ := by unfold World.cell?; rw [h]
theorem Kept.refl (R B s i : Nat) (W : World) : Kept R B s i W W := ⟨Nat.le_refl _, fun _ _ _ _ => rfl, fun _ => rfl⟩
theorem Kept.of {R B s i : Nat} {W W' : World} (hB : B < W.heap.size) (hne : B ≠ R) (g : W.grownBy W' (some R)) : Kept R B s i W W' :=
  ⟨g.size, fun b h hr _ => g.block b h (fun e => hr (by injection e)), fun _ => g.block B hB (fun e => hne (by injection e))⟩
theorem Five.next {R B s i : Nat} {v : Value} {W W' : World} (h : Five R B v W) (k : Kept R B s i W W') : Five R B v W' := by
  obtain ⟨g, rfl, h1, h2, h3, h4⟩ := h
  refine ⟨g, rfl, h1, Nat.lt_of_lt_of_le h2 k.1, h3, fun j hj => ?_⟩
  rw [cell_same (k.2.1 g h2 (by omega) h3)]
  exact h4 j hj
theorem Spotted.next {R B s i : Nat} {v : Value} {W W' : World} (h : Spotted R B v W) (k : Kept R B s i W W') : Spotted R B v W' := by
  obtain ⟨g, n, rfl, h1, h2, h3, h4⟩ := h
  refine ⟨g, n, rfl, h1, Nat.lt_of_lt_of_le h2 k.1, h3, ?_⟩
  rw [cell_same (k.2.1 g h2 (by omega) h3)]
  exact h4
theorem TwoIn.next {R B s i : Nat} {W W' : World} (h : TwoIn B W) (k : Kept R B s i W W') (hi : s ≠ i) : TwoIn B W' := by
  obtain ⟨h0, x, y, h1, h2, h3⟩ := h
  have e := k.2.2 (Ne.symm hi)
  exact ⟨Nat.lt_of_lt_of_le h0 k.1, x, y, by rw [cell_same e]; exact h1, by rw [cell_same e]; exact h2, h3⟩

/-- What the region of two tables and two picks holds: the reader, so far on as picks are done; the block of the answer. -/
def SL (w : World) (R : Nat) (a : Option Addr) (m c : Nat) (z : Nat → Int) (q B : Nat) (x y : Nat) (L : Nat → Bool) (W : World) : Prop := Rd W R a m c z (q + (if L x then 1 else 0) + (if L y then 1 else 0)) ∧ w.grownBy W (some R) ∧ BoxIn B W
theorem SL.pure {w : World} {R : Nat} {a : Option Addr} {m c : Nat} {z : Nat → Int} {q B x y : Nat} {L : Nat → Bool} {W : World} (h : SL w R a m c z q B x y L W) {i : Nat} (h1 : x ≠ i) (h2 : y ≠ i) : SL w R a m c z q B x y (upd L i true) W := by
  unfold SL at *
  rw [upd_other _ _ h1, upd_other _ _ h2]
  exact h
theorem BoxIn.next {R B : Nat} {W W' : World} (h : BoxIn B W) (hne : B ≠ R) (g : W.grownBy W' (some R)) : BoxIn B W' := by
  obtain ⟨h0, ⟨u, hu⟩, ⟨v, hv⟩, h3⟩ := h
  obtain ⟨hc, hf⟩ := gcell g
  exact ⟨Nat.lt_of_lt_of_le h0 g.size, ⟨u, (hc B 0 h0 hne).trans hu⟩, ⟨v, (hc B 1 h0 hne).trans hv⟩, fun i => (hf B i h0 hne).trans (h3 i)⟩
theorem SL.alloc {w : World} {R : Nat} {a : Option Addr} {m c : Nat} {z : Nat → Int} {q B x y : Nat} {L : Nat → Bool} {W : World} (h : SL w R a m c z q B x y L W) (hne : B ≠ R) (o : Obj) : SL w R a m c z q B x y L (W.alloc o) :=
  ⟨h.1.kept (World.grownBy_alloc _ _ none) (by simp), grown_trans h.2.1 (World.grownBy_alloc _ _ _), h.2.2.next hne (World.grownBy_alloc _ _ _)⟩
theorem SL.fst {w : World} {R : Nat} {a : Option Addr} {m c : Nat} {z : Nat → Int} {q B x y : Nat} {L : Nat → Bool} {W W' : World} (h : SL w R a m c z q B x y L W) (hne : B ≠ R) (hxy : x ≠ y) (hx : L x = false) (hr : Rd W' R a m c z (q + (if L x then 1 else 0) + (if L y then 1 else 0) + 1)) (g : W.grownBy W' (some R)) : SL w R a m c z q B x y (upd L x true) W' := by
  refine ⟨?_, grown_trans h.2.1 g, h.2.2.next hne g⟩
  rw [upd_same, upd_other _ _ (Ne.symm hxy)]
  rw [hx] at hr
  simp only [Bool.false_eq_true, if_false, if_true] at hr ⊢
  rwa [show q + 1 + (if L y = true then 1 else 0) = q + 0 + (if L y = true then 1 else 0) + 1 by omega]
theorem SL.snd {w : World} {R : Nat} {a : Option Addr} {m c : Nat} {z : Nat → Int} {q B x y : Nat} {L : Nat → Bool} {W W' : World} (h : SL w R a m c z q B x y L W) (hne : B ≠ R) (hxy : x ≠ y) (hy : L y = false) (hr : Rd W' R a m c z (q + (if L x then 1 else 0) + (if L y then 1 else 0) + 1)) (g : W.grownBy W' (some R)) : SL w R a m c z q B x y (upd L y true) W' := by
  refine ⟨?_, grown_trans h.2.1 g, h.2.2.next hne g⟩
  rw [upd_same, upd_other _ _ hxy]
  rw [hy] at hr
  simpa using hr
theorem SL.set {w : World} {R : Nat} {a : Option Addr} {m c : Nat} {z : Nat → Int} {q B x y : Nat} {L : Nat → Bool} {W : World} (h : SL w R a m c z q B x y L W) (hw : w.heap.size ≤ B) (hR : R < w.heap.size) (u v : Value) : SL w R a m c z q B x y L ((W.setCell ⟨B, 0, none⟩ u).setCell ⟨B, 1, none⟩ v) := by
  obtain ⟨h1, h2, h3, ⟨u0, k0⟩, ⟨u1, k1⟩, k2⟩ := h
  have gB : W.grownBy ((W.setCell ⟨B, 0, none⟩ u).setCell ⟨B, 1, none⟩ v) (some B) := grown_trans (grown_set W B 0 u 0) (grown_set _ B 1 v 0)
  have gw : w.grownBy ((W.setCell ⟨B, 0, none⟩ u).setCell ⟨B, 1, none⟩ v) (some R) :=
    ⟨gB.os.trans h2.os, gB.tape.trans h2.tape, gB.output.trans h2.output, Nat.le_trans h2.size gB.size, fun k hk hne => (gB.block k (Nat.lt_of_lt_of_le hk h2.size) (fun e => by injection e with e; omega)).trans (h2.block k hk hne)⟩
  refine ⟨h1.kept gB (fun k hk => by injection hk with hk; omega), gw, Nat.lt_of_lt_of_le h3 gB.size, ⟨u, ?_⟩, ⟨v, ?_⟩, fun i => by rw [World.frozen?_setCell, World.frozen?_setCell]; exact k2 i⟩
  · rw [World.cell?_setCell_other _ _ _ _ (by simp), World.cell?_setCell_same _ _ _ k0]
  · exact World.cell?_setCell_same _ _ _ (u := u1) (by rw [World.cell?_setCell_other _ _ _ _ (by simp)]; exact k1)
theorem five_of {R B : Nat} {W : World} {cs : Array Value} {t : TypeId} (hR : R < W.heap.size) (hB : B < W.heap.size) (hs : cs.size = 5) (hall : cs.toList.all (inTab (-9223372036854775808) 9223372036854775807) = true) : Five R B (.slice (some ⟨W.heap.size, 0, none⟩) 5 5) (W.alloc (.cells cs t)) :=
  ⟨W.heap.size, rfl, hR, by simp, by omega, fun k hk => by
    obtain ⟨n, e, h1, h2⟩ := inTab_int (all_of hall k (by omega))
    exact ⟨n, (cell_new W cs t k (by omega)).trans (by rw [e]), h1, h2⟩⟩
theorem kept_set {R B s : Nat} {W : World} (u v : Value) : Kept R B s s W ((W.setCell ⟨B, 0, none⟩ u).setCell ⟨B, 1, none⟩ v) :=
  have gB : W.grownBy ((W.setCell ⟨B, 0, none⟩ u).setCell ⟨B, 1, none⟩ v) (some B) := grown_trans (grown_set W B 0 u 0) (grown_set _ B 1 v 0)
  ⟨gB.size, fun b h _ hb => gB.block b h (fun e => hb (by injection e)), fun h => absurd rfl h⟩
theorem two_set {B : Nat} {W : World} (h : BoxIn B W) {x y : Int} (hx : I64 x) (hy : I64 y) : TwoIn B ((W.setCell ⟨B, 0, none⟩ (.int .i64 x)).setCell ⟨B, 1, none⟩ (.int .i64 y)) := by
  obtain ⟨h3, ⟨u0, k0⟩, ⟨u1, k1⟩, k2⟩ := h
  refine ⟨by simpa [World.setCell] using h3, x, y, ?_, ?_, hx, hy⟩
  · rw [World.cell?_setCell_other _ _ _ _ (by simp), World.cell?_setCell_same _ _ _ k0]
  · exact World.cell?_setCell_same _ _ _ (u := u1) (by rw [World.cell?_setCell_other _ _ _ _ (by simp)]; exact k1)

/-- What the tail of the drawing holds: the reader, the answer's block (w's first new one), the bounds' own block. -/
structure Bx (w : World) (R : Nat) (a : Option Addr) (m c : Nat) (z : Nat → Int) (q X : Nat) (lo hi : Int) (W : World) : Prop where
  rd : Rd W R a m c z q
  grown : w.grownBy W (some R)
  r : R < w.heap.size
  x : w.heap.size < X
  lt : X < W.heap.size
  x0 : W.cell? ⟨X, 0, none⟩ = some (.int .i64 lo)
  x1 : W.cell? ⟨X, 1, none⟩ = some (.int .i64 hi)
  b0 : ∃ u, W.cell? ⟨w.heap.size, 0, none⟩ = some u
  b1 : ∃ u, W.cell? ⟨w.heap.size, 1, none⟩ = some u
  fb : ∀ i, W.frozen? ⟨w.heap.size, i, none⟩ = false
  fx : ∀ i, W.frozen? ⟨X, i, none⟩ = false
theorem Bx.next {w : World} {R : Nat} {a : Option Addr} {m c : Nat} {z : Nat → Int} {q X : Nat} {lo hi : Int} {W W' : World} {q' : Nat} (h : Bx w R a m c z q X lo hi W) (hr : Rd W' R a m c z q') (g : W.grownBy W' (some R)) : Bx w R a m c z q' X lo hi W' := by
  obtain ⟨hc, hf⟩ := gcell g
  have n1 : w.heap.size ≠ R := by have := h.r; omega
  have n2 : X ≠ R := by have := h.r; have := h.x; omega
  have l1 : w.heap.size < W.heap.size := by have := h.x; have := h.lt; omega
  obtain ⟨u, hu⟩ := h.b0
  obtain ⟨v, hv⟩ := h.b1
  exact ⟨hr, grown_trans h.grown g, h.r, h.x, Nat.lt_of_lt_of_le h.lt g.size, (hc X 0 h.lt n2).trans h.x0, (hc X 1 h.lt n2).trans h.x1, ⟨u, (hc _ 0 l1 n1).trans hu⟩, ⟨v, (hc _ 1 l1 n1).trans hv⟩, fun i => (hf _ i l1 n1).trans (h.fb i), fun i => (hf X i h.lt n2).trans (h.fx i)⟩
theorem Bx.new {w : World} {R : Nat} {a : Option Addr} {m c : Nat} {z : Nat → Int} {q : Nat} {lo hi : Int} {W : World} {t : TypeId} (hr : Rd W R a m c z q) (hg : w.grownBy W (some R)) (hR : R < w.heap.size) (hB : BoxIn w.heap.size W) : Bx w R a m c z q W.heap.size lo hi (W.alloc (.cells #[.int .i64 lo, .int .i64 hi] t)) := by
  have hB' := hB.next (R := R) (by omega) (World.grownBy_alloc W (.cells #[.int .i64 lo, .int .i64 hi] t) (some R))
  refine ⟨hr.kept (World.grownBy_alloc _ _ none) (by simp), grown_trans hg (World.grownBy_alloc _ _ _), hR, hB.1, by simp, ?_, ?_, hB'.2.1, hB'.2.2.1, hB'.2.2.2, fun i => World.frozen?_alloc_new _ _ _ _⟩
  · exact (cell_new W _ t 0 (by simp)).trans rfl
  · exact (cell_new W _ t 1 (by simp)).trans rfl
/-- The bounds' block turned. -/
theorem Bx.put {w : World} {R : Nat} {a : Option Addr} {m c : Nat} {z : Nat → Int} {q X : Nat} {lo hi : Int} {W : World} (h : Bx w R a m c z q X lo hi W) (v : Int) : Bx w R a m c z q X v hi (W.setCell ⟨X, 0, none⟩ (.int .i64 v)) ∧ Bx w R a m c z q X lo v (W.setCell ⟨X, 1, none⟩ (.int .i64 v)) := by
  have n1 : w.heap.size ≠ X := by have := h.x; omega
  have ne : ∀ i j, (⟨w.heap.size, i, none⟩ : Addr) ≠ ⟨X, j, none⟩ := fun i j e => n1 (by injection e)
  obtain ⟨u, hu⟩ := h.b0
  obtain ⟨u', hu'⟩ := h.b1
  have G : ∀ i, w.grownBy (W.setCell ⟨X, i, none⟩ (.int .i64 v)) (some R) := fun i => by
    have gX := grown_set W X i (.int .i64 v) 0
    exact ⟨gX.os.trans h.grown.os, gX.tape.trans h.grown.tape, gX.output.trans h.grown.output, Nat.le_trans h.grown.size gX.size, fun k hk hne => (gX.block k (Nat.lt_of_lt_of_le hk h.grown.size) (fun e => by injection e with e; have := h.x; omega)).trans (h.grown.block k hk hne)⟩
  have K : ∀ i, Rd (W.setCell ⟨X, i, none⟩ (.int .i64 v)) R a m c z q := fun i => h.rd.kept (grown_set W X i (.int .i64 v) 0) (fun k hk => by injection hk with hk; have := h.x; have := h.r; omega)
  have L : ∀ i, X < (W.setCell ⟨X, i, none⟩ (.int .i64 v)).heap.size := fun i => by simpa [World.setCell] using h.lt
  refine ⟨⟨K 0, G 0, h.r, h.x, L 0, World.cell?_setCell_same _ _ _ h.x0, ?_, ⟨u, ?_⟩, ⟨u', ?_⟩, fun i => by rw [World.frozen?_setCell]; exact h.fb i, fun i => by rw [World.frozen?_setCell]; exact h.fx i⟩, ⟨K 1, G 1, h.r, h.x, L 1, ?_, World.cell?_setCell_same _ _ _ h.x1, ⟨u, ?_⟩, ⟨u', ?_⟩, fun i => by rw [World.frozen?_setCell]; exact h.fb i, fun i => by rw [World.frozen?_setCell]; exact h.fx i⟩⟩
  · rw [World.cell?_setCell_other _ _ _ _ (by simp)]; exact h.x1
  · rw [World.cell?_setCell_other _ _ _ _ (ne _ _).symm]; exact hu
  · rw [World.cell?_setCell_other _ _ _ _ (ne _ _).symm]; exact hu'
  · rw [World.cell?_setCell_other _ _ _ _ (by simp)]; exact h.x0
  · rw [World.cell?_setCell_other _ _ _ _ (ne _ _).symm]; exact hu
  · rw [World.cell?_setCell_other _ _ _ _ (ne _ _).symm]; exact hu'
theorem Bx.done {w : World} {R : Nat} {a : Option Addr} {m c : Nat} {z : Nat → Int} {p q X : Nat} {lo hi x y : Int} {W : World} (h : Bx w R a m c z q X lo hi W) (hx : I64 x) (hy : I64 y) (hq : q ≤ p + 20) : DItv R a m c z p w (.returned (.agg #[.int .i64 x, .int .i64 y])) ((W.setCell ⟨w.heap.size, 0, none⟩ (.int .i64 x)).setCell ⟨w.heap.size, 1, none⟩ (.int .i64 y)) := by
  have hS : SL w R a m c z q w.heap.size 0 0 (fun _ => false) W := ⟨by simpa using h.rd, h.grown, Nat.lt_trans h.x h.lt, h.b0, h.b1, h.fb⟩
  have hT := hS.set (Nat.le_refl _) h.r (.int .i64 x) (.int .i64 y)
  exact ⟨x, y, q, hx, hy, rfl, hq, by simpa using hT.1, hT.2.1⟩

set_option maxRecDepth 10000 in
set_option maxHeartbeats 4000000 in
theorem itvD (R : Nat) (a : Option Addr) (m c : Nat) (z : Nat → Int) (p : Nat) (n : Int) (w : World) (h : Rd w R a m c z p) (hp : p < 600000) (hn : 1 ≤ n) (hn2 : n < 9000) :
    Calls Try.prog 50 #[.pointer (some ⟨R, 0, none⟩), .int .i64 n] w (DItv R a m c z p w) := by
  have hR := h.size
  have hne : ¬ w.heap.size = R := by omega
  have g0 : w.grownBy (w.alloc (.cells #[.int .i64 0, .int .i64 0] 25)) (some R) := World.grownBy_alloc _ _ _
  have h0 : Rd (w.alloc (.cells #[.int .i64 0, .int .i64 0] 25)) R a m c z p := h.kept (World.grownBy_alloc _ _ none) (by simp)
  go_enter Try.func50, Try.ntmps50
  go_wp2_with fail
  refine (numS R a m c z p _ h0 (by omega)).mono ?_
  rintro e w1 ⟨x1, p1, hx1, hx1', rfl, hp1, h1, g1⟩
  go_wp2_with fail
  refine (numS R a m c z p1 _ h1 (by omega)).mono ?_
  rintro e w2 ⟨x2, p2, hx2, hx2', rfl, hp2, h2, g2⟩
  go_wp2_with fail
  refine (pick R a m c z p2 4 _ h2 (by omega) (by omega) (by omega)).mono ?_
  rintro e w3 ⟨x, hx, hx', rfl, h3, g3⟩
  have g03 := grown_trans g0 (grown_trans g1 (grown_trans g2 g3))
  have G3 := grown_trans g1 (grown_trans g2 g3)
  have hbox : ∀ W, (w.alloc (.cells #[.int .i64 0, .int .i64 0] 25)).grownBy W (some R) → BoxIn w.heap.size W := by
    intro W G
    obtain ⟨hc, hf⟩ := gcell G
    refine ⟨?_, ⟨.int .i64 0, (hc w.heap.size 0 (by simp) hne).trans (by simp [go_sem])⟩, ⟨.int .i64 0, (hc w.heap.size 1 (by simp) hne).trans (by simp [go_sem])⟩, fun i => (hf w.heap.size i (by simp) hne).trans (World.frozen?_alloc_new _ _ _ _)⟩
    have := G.size
    simp at this
    omega
  obtain rfl | rfl | rfl | rfl : x = 0 ∨ x = 1 ∨ x = 2 ∨ x = 3 := by omega
  · clear g0 h0 g1 g2 g3 h1 h2
    have B3 : Bx w R a m c z (p2 + 1) w3.heap.size (x1) (x1) (w3.alloc (.cells #[.int .i64 (x1), .int .i64 (x1)] 25)) := Bx.new h3 g03 hR (hbox w3 (by assumption))
    go_wp2_with fail
    refine (oddS R a m c z (p2 + 1) n _ B3.rd (by omega) hn hn2).mono ?_
    rintro e w5 ⟨o, rfl, h5, g5⟩
    have B5 := B3.next h5 g5
    clear B3
    cases o
    · clear g5 h5
      obtain ⟨u0, k0⟩ := B5.b0
      obtain ⟨u1, k1⟩ := B5.b1
      have kf := B5.fb
      have d0 := B5.x0
      have d1 := B5.x1
      obtain ⟨e0, e1⟩ := own2 k0 k1
      go_wp2_with fail
      refine bodyPost_ret (v := .agg #[.int .i64 (x1), .int .i64 (x1)]) (by simp [results, Try.results50, go_sem, e0, e1]) rfl (B5.done ⟨by omega, by omega⟩ ⟨by omega, by omega⟩ (by omega))
    · go_wp2_with fail
      refine (pick R a m c z _ 3 _ h5 (by omega) (by omega) (by omega)).mono ?_
      rintro e w6 ⟨y6, hy6, hy6', rfl, h6, g6⟩
      have B6 := B5.next h6 g6
      clear B5 g5 h5
      obtain rfl | rfl | rfl : y6 = 0 ∨ y6 = 1 ∨ y6 = 2 := by omega
      · clear g6 h6
        obtain ⟨u0, k0⟩ := B6.b0
        obtain ⟨u1, k1⟩ := B6.b1
        have kf := B6.fb
        have d0 := B6.x0
        have d1 := B6.x1
        obtain ⟨e0, e1⟩ := own2 k0 k1
        go_wp2_with fail
        refine bodyPost_ret (v := .agg #[.int .i64 (x1), .int .i64 (x1)]) (by simp [results, Try.results50, go_sem, e0, e1]) rfl (B6.done ⟨by omega, by omega⟩ ⟨by omega, by omega⟩ (by omega))
      · go_wp2_with fail
        refine (rawS R a m c z _ _ h6 (by omega)).mono ?_
        rintro e w7 ⟨v7, p7, hv7, hv7', rfl, hp7, h7, g7⟩
        have B7 := B6.next h7 g7
        clear B6 g6 h6 g7 h7
        have B8 := (B7.put v7).1
        have y0 := B7.x0
        have y1 := B7.x1
        have yf := B7.fx
        obtain ⟨u0, k0⟩ := B8.b0
        obtain ⟨u1, k1⟩ := B8.b1
        have kf := B8.fb
        have d0 := B8.x0
        have d1 := B8.x1
        obtain ⟨e0, e1⟩ := own2 k0 k1
        go_wp2_with fail
        refine bodyPost_ret (v := .agg #[.int .i64 (v7), .int .i64 (x1)]) (by simp [results, Try.results50, go_sem, e0, e1]) rfl (B8.done ⟨by omega, by omega⟩ ⟨by omega, by omega⟩ (by omega))
      · go_wp2_with fail
        refine (rawS R a m c z _ _ h6 (by omega)).mono ?_
        rintro e w7 ⟨v7, p7, hv7, hv7', rfl, hp7, h7, g7⟩
        have B7 := B6.next h7 g7
        clear B6 g6 h6 g7 h7
        have B8 := (B7.put v7).2
        have y0 := B7.x0
        have y1 := B7.x1
        have yf := B7.fx
        obtain ⟨u0, k0⟩ := B8.b0
        obtain ⟨u1, k1⟩ := B8.b1
        have kf := B8.fb
        have d0 := B8.x0
        have d1 := B8.x1
        obtain ⟨e0, e1⟩ := own2 k0 k1
        go_wp2_with fail
        refine bodyPost_ret (v := .agg #[.int .i64 (x1), .int .i64 (v7)]) (by simp [results, Try.results50, go_sem, e0, e1]) rfl (B8.done ⟨by omega, by omega⟩ ⟨by omega, by omega⟩ (by omega))
  · go_wp2_with fail
    refine (pick R a m c z _ 5 _ h3 (by omega) (by omega) (by omega)).mono ?_
    rintro e w4 ⟨y, hy, hy', rfl, h4, g4⟩
    have g04 := grown_trans g03 g4
    have G4 := grown_trans G3 g4
    clear g0 h0 g1 g2 g3 h1 h2 g4 h3 G3 g03
    by_cases hc : x1 + y < 32767
    · by_cases hy0 : y = 0
      · subst hy0
        simp only [Int.add_zero] at hc
        have B3 : Bx w R a m c z (p2 + 1 + 1) w4.heap.size (x1) (x1) (w4.alloc (.cells #[.int .i64 (x1), .int .i64 (x1)] 25)) := Bx.new h4 g04 hR (hbox w4 (by assumption))
        go_wp2_with fail
        refine (oddS R a m c z (p2 + 1 + 1) n _ B3.rd (by omega) hn hn2).mono ?_
        rintro e w5 ⟨o, rfl, h5, g5⟩
        have B5 := B3.next h5 g5
        clear B3
        cases o
        · clear g5 h5
          obtain ⟨u0, k0⟩ := B5.b0
          obtain ⟨u1, k1⟩ := B5.b1
          have kf := B5.fb
          have d0 := B5.x0
          have d1 := B5.x1
          obtain ⟨e0, e1⟩ := own2 k0 k1
          go_wp2_with fail
          refine bodyPost_ret (v := .agg #[.int .i64 (x1), .int .i64 (x1)]) (by simp [results, Try.results50, go_sem, e0, e1]) rfl (B5.done ⟨by omega, by omega⟩ ⟨by omega, by omega⟩ (by omega))
        · go_wp2_with fail
          refine (pick R a m c z _ 3 _ h5 (by omega) (by omega) (by omega)).mono ?_
          rintro e w6 ⟨y6, hy6, hy6', rfl, h6, g6⟩
          have B6 := B5.next h6 g6
          clear B5 g5 h5
          obtain rfl | rfl | rfl : y6 = 0 ∨ y6 = 1 ∨ y6 = 2 := by omega
          · clear g6 h6
            obtain ⟨u0, k0⟩ := B6.b0
            obtain ⟨u1, k1⟩ := B6.b1
            have kf := B6.fb
            have d0 := B6.x0
            have d1 := B6.x1
            obtain ⟨e0, e1⟩ := own2 k0 k1
            go_wp2_with fail
            refine bodyPost_ret (v := .agg #[.int .i64 (x1), .int .i64 (x1)]) (by simp [results, Try.results50, go_sem, e0, e1]) rfl (B6.done ⟨by omega, by omega⟩ ⟨by omega, by omega⟩ (by omega))
          · go_wp2_with fail
            refine (rawS R a m c z _ _ h6 (by omega)).mono ?_
            rintro e w7 ⟨v7, p7, hv7, hv7', rfl, hp7, h7, g7⟩
            have B7 := B6.next h7 g7
            clear B6 g6 h6 g7 h7
            have B8 := (B7.put v7).1
            have y0 := B7.x0
            have y1 := B7.x1
            have yf := B7.fx
            obtain ⟨u0, k0⟩ := B8.b0
            obtain ⟨u1, k1⟩ := B8.b1
            have kf := B8.fb
            have d0 := B8.x0
            have d1 := B8.x1
            obtain ⟨e0, e1⟩ := own2 k0 k1
            go_wp2_with fail
            refine bodyPost_ret (v := .agg #[.int .i64 (v7), .int .i64 (x1)]) (by simp [results, Try.results50, go_sem, e0, e1]) rfl (B8.done ⟨by omega, by omega⟩ ⟨by omega, by omega⟩ (by omega))
          · go_wp2_with fail
            refine (rawS R a m c z _ _ h6 (by omega)).mono ?_
            rintro e w7 ⟨v7, p7, hv7, hv7', rfl, hp7, h7, g7⟩
            have B7 := B6.next h7 g7
            clear B6 g6 h6 g7 h7
            have B8 := (B7.put v7).2
            have y0 := B7.x0
            have y1 := B7.x1
            have yf := B7.fx
            obtain ⟨u0, k0⟩ := B8.b0
            obtain ⟨u1, k1⟩ := B8.b1
            have kf := B8.fb
            have d0 := B8.x0
            have d1 := B8.x1
            obtain ⟨e0, e1⟩ := own2 k0 k1
            go_wp2_with fail
            refine bodyPost_ret (v := .agg #[.int .i64 (x1), .int .i64 (v7)]) (by simp [results, Try.results50, go_sem, e0, e1]) rfl (B8.done ⟨by omega, by omega⟩ ⟨by omega, by omega⟩ (by omega))
      · have m1 : x1 < x1 + y := by omega
        have B3 : Bx w R a m c z (p2 + 1 + 1) w4.heap.size (x1) (x1 + y) (w4.alloc (.cells #[.int .i64 (x1), .int .i64 (x1 + y)] 25)) := Bx.new h4 g04 hR (hbox w4 (by assumption))
        go_wp2_with fail
        refine (oddS R a m c z (p2 + 1 + 1) n _ B3.rd (by omega) hn hn2).mono ?_
        rintro e w5 ⟨o, rfl, h5, g5⟩
        have B5 := B3.next h5 g5
        clear B3
        cases o
        · clear g5 h5
          obtain ⟨u0, k0⟩ := B5.b0
          obtain ⟨u1, k1⟩ := B5.b1
          have kf := B5.fb
          have d0 := B5.x0
          have d1 := B5.x1
          obtain ⟨e0, e1⟩ := own2 k0 k1
          go_wp2_with fail
          refine bodyPost_ret (v := .agg #[.int .i64 (x1), .int .i64 (x1 + y)]) (by simp [results, Try.results50, go_sem, e0, e1]) rfl (B5.done ⟨by omega, by omega⟩ ⟨by omega, by omega⟩ (by omega))
        · go_wp2_with fail
          refine (pick R a m c z _ 3 _ h5 (by omega) (by omega) (by omega)).mono ?_
          rintro e w6 ⟨y6, hy6, hy6', rfl, h6, g6⟩
          have B6 := B5.next h6 g6
          clear B5 g5 h5
          obtain rfl | rfl | rfl : y6 = 0 ∨ y6 = 1 ∨ y6 = 2 := by omega
          · clear g6 h6
            obtain ⟨u0, k0⟩ := B6.b0
            obtain ⟨u1, k1⟩ := B6.b1
            have kf := B6.fb
            have d0 := B6.x0
            have d1 := B6.x1
            obtain ⟨e0, e1⟩ := own2 k0 k1
            go_wp2_with fail
            refine bodyPost_ret (v := .agg #[.int .i64 (x1 + y), .int .i64 (x1)]) (by simp [results, Try.results50, go_sem, e0, e1]) rfl (B6.done ⟨by omega, by omega⟩ ⟨by omega, by omega⟩ (by omega))
          · go_wp2_with fail
            refine (rawS R a m c z _ _ h6 (by omega)).mono ?_
            rintro e w7 ⟨v7, p7, hv7, hv7', rfl, hp7, h7, g7⟩
            have B7 := B6.next h7 g7
            clear B6 g6 h6 g7 h7
            have B8 := (B7.put v7).1
            have y0 := B7.x0
            have y1 := B7.x1
            have yf := B7.fx
            obtain ⟨u0, k0⟩ := B8.b0
            obtain ⟨u1, k1⟩ := B8.b1
            have kf := B8.fb
            have d0 := B8.x0
            have d1 := B8.x1
            obtain ⟨e0, e1⟩ := own2 k0 k1
            go_wp2_with fail
            refine bodyPost_ret (v := .agg #[.int .i64 (v7), .int .i64 (x1 + y)]) (by simp [results, Try.results50, go_sem, e0, e1]) rfl (B8.done ⟨by omega, by omega⟩ ⟨by omega, by omega⟩ (by omega))
          · go_wp2_with fail
            refine (rawS R a m c z _ _ h6 (by omega)).mono ?_
            rintro e w7 ⟨v7, p7, hv7, hv7', rfl, hp7, h7, g7⟩
            have B7 := B6.next h7 g7
            clear B6 g6 h6 g7 h7
            have B8 := (B7.put v7).2
            have y0 := B7.x0
            have y1 := B7.x1
            have yf := B7.fx
            obtain ⟨u0, k0⟩ := B8.b0
            obtain ⟨u1, k1⟩ := B8.b1
            have kf := B8.fb
            have d0 := B8.x0
            have d1 := B8.x1
            obtain ⟨e0, e1⟩ := own2 k0 k1
            go_wp2_with fail
            refine bodyPost_ret (v := .agg #[.int .i64 (x1), .int .i64 (v7)]) (by simp [results, Try.results50, go_sem, e0, e1]) rfl (B8.done ⟨by omega, by omega⟩ ⟨by omega, by omega⟩ (by omega))
    · by_cases h32 : x1 = 32767
      · subst h32
        have B3 : Bx w R a m c z (p2 + 1 + 1) w4.heap.size (32767) (32767) (w4.alloc (.cells #[.int .i64 (32767), .int .i64 (32767)] 25)) := Bx.new h4 g04 hR (hbox w4 (by assumption))
        go_wp2_with fail
        refine (oddS R a m c z (p2 + 1 + 1) n _ B3.rd (by omega) hn hn2).mono ?_
        rintro e w5 ⟨o, rfl, h5, g5⟩
        have B5 := B3.next h5 g5
        clear B3
        cases o
        · clear g5 h5
          obtain ⟨u0, k0⟩ := B5.b0
          obtain ⟨u1, k1⟩ := B5.b1
          have kf := B5.fb
          have d0 := B5.x0
          have d1 := B5.x1
          obtain ⟨e0, e1⟩ := own2 k0 k1
          go_wp2_with fail
          refine bodyPost_ret (v := .agg #[.int .i64 (32767), .int .i64 (32767)]) (by simp [results, Try.results50, go_sem, e0, e1]) rfl (B5.done ⟨by omega, by omega⟩ ⟨by omega, by omega⟩ (by omega))
        · go_wp2_with fail
          refine (pick R a m c z _ 3 _ h5 (by omega) (by omega) (by omega)).mono ?_
          rintro e w6 ⟨y6, hy6, hy6', rfl, h6, g6⟩
          have B6 := B5.next h6 g6
          clear B5 g5 h5
          obtain rfl | rfl | rfl : y6 = 0 ∨ y6 = 1 ∨ y6 = 2 := by omega
          · clear g6 h6
            obtain ⟨u0, k0⟩ := B6.b0
            obtain ⟨u1, k1⟩ := B6.b1
            have kf := B6.fb
            have d0 := B6.x0
            have d1 := B6.x1
            obtain ⟨e0, e1⟩ := own2 k0 k1
            go_wp2_with fail
            refine bodyPost_ret (v := .agg #[.int .i64 (32767), .int .i64 (32767)]) (by simp [results, Try.results50, go_sem, e0, e1]) rfl (B6.done ⟨by omega, by omega⟩ ⟨by omega, by omega⟩ (by omega))
          · go_wp2_with fail
            refine (rawS R a m c z _ _ h6 (by omega)).mono ?_
            rintro e w7 ⟨v7, p7, hv7, hv7', rfl, hp7, h7, g7⟩
            have B7 := B6.next h7 g7
            clear B6 g6 h6 g7 h7
            have B8 := (B7.put v7).1
            have y0 := B7.x0
            have y1 := B7.x1
            have yf := B7.fx
            obtain ⟨u0, k0⟩ := B8.b0
            obtain ⟨u1, k1⟩ := B8.b1
            have kf := B8.fb
            have d0 := B8.x0
            have d1 := B8.x1
            obtain ⟨e0, e1⟩ := own2 k0 k1
            go_wp2_with fail
            refine bodyPost_ret (v := .agg #[.int .i64 (v7), .int .i64 (32767)]) (by simp [results, Try.results50, go_sem, e0, e1]) rfl (B8.done ⟨by omega, by omega⟩ ⟨by omega, by omega⟩ (by omega))
          · go_wp2_with fail
            refine (rawS R a m c z _ _ h6 (by omega)).mono ?_
            rintro e w7 ⟨v7, p7, hv7, hv7', rfl, hp7, h7, g7⟩
            have B7 := B6.next h7 g7
            clear B6 g6 h6 g7 h7
            have B8 := (B7.put v7).2
            have y0 := B7.x0
            have y1 := B7.x1
            have yf := B7.fx
            obtain ⟨u0, k0⟩ := B8.b0
            obtain ⟨u1, k1⟩ := B8.b1
            have kf := B8.fb
            have d0 := B8.x0
            have d1 := B8.x1
            obtain ⟨e0, e1⟩ := own2 k0 k1
            go_wp2_with fail
            refine bodyPost_ret (v := .agg #[.int .i64 (32767), .int .i64 (v7)]) (by simp [results, Try.results50, go_sem, e0, e1]) rfl (B8.done ⟨by omega, by omega⟩ ⟨by omega, by omega⟩ (by omega))
      · have m1 : x1 < 32767 := by omega
        have B3 : Bx w R a m c z (p2 + 1 + 1) w4.heap.size (x1) (32767) (w4.alloc (.cells #[.int .i64 (x1), .int .i64 (32767)] 25)) := Bx.new h4 g04 hR (hbox w4 (by assumption))
        go_wp2_with fail
        refine (oddS R a m c z (p2 + 1 + 1) n _ B3.rd (by omega) hn hn2).mono ?_
        rintro e w5 ⟨o, rfl, h5, g5⟩
        have B5 := B3.next h5 g5
        clear B3
        cases o
        · clear g5 h5
          obtain ⟨u0, k0⟩ := B5.b0
          obtain ⟨u1, k1⟩ := B5.b1
          have kf := B5.fb
          have d0 := B5.x0
          have d1 := B5.x1
          obtain ⟨e0, e1⟩ := own2 k0 k1
          go_wp2_with fail
          refine bodyPost_ret (v := .agg #[.int .i64 (x1), .int .i64 (32767)]) (by simp [results, Try.results50, go_sem, e0, e1]) rfl (B5.done ⟨by omega, by omega⟩ ⟨by omega, by omega⟩ (by omega))
        · go_wp2_with fail
          refine (pick R a m c z _ 3 _ h5 (by omega) (by omega) (by omega)).mono ?_
          rintro e w6 ⟨y6, hy6, hy6', rfl, h6, g6⟩
          have B6 := B5.next h6 g6
          clear B5 g5 h5
          obtain rfl | rfl | rfl : y6 = 0 ∨ y6 = 1 ∨ y6 = 2 := by omega
          · clear g6 h6
            obtain ⟨u0, k0⟩ := B6.b0
            obtain ⟨u1, k1⟩ := B6.b1
            have kf := B6.fb
            have d0 := B6.x0
            have d1 := B6.x1
            obtain ⟨e0, e1⟩ := own2 k0 k1
            go_wp2_with fail
            refine bodyPost_ret (v := .agg #[.int .i64 (32767), .int .i64 (x1)]) (by simp [results, Try.results50, go_sem, e0, e1]) rfl (B6.done ⟨by omega, by omega⟩ ⟨by omega, by omega⟩ (by omega))
          · go_wp2_with fail
            refine (rawS R a m c z _ _ h6 (by omega)).mono ?_
            rintro e w7 ⟨v7, p7, hv7, hv7', rfl, hp7, h7, g7⟩
            have B7 := B6.next h7 g7
            clear B6 g6 h6 g7 h7
            have B8 := (B7.put v7).1
            have y0 := B7.x0
            have y1 := B7.x1
            have yf := B7.fx
            obtain ⟨u0, k0⟩ := B8.b0
            obtain ⟨u1, k1⟩ := B8.b1
            have kf := B8.fb
            have d0 := B8.x0
            have d1 := B8.x1
            obtain ⟨e0, e1⟩ := own2 k0 k1
            go_wp2_with fail
            refine bodyPost_ret (v := .agg #[.int .i64 (v7), .int .i64 (32767)]) (by simp [results, Try.results50, go_sem, e0, e1]) rfl (B8.done ⟨by omega, by omega⟩ ⟨by omega, by omega⟩ (by omega))
          · go_wp2_with fail
            refine (rawS R a m c z _ _ h6 (by omega)).mono ?_
            rintro e w7 ⟨v7, p7, hv7, hv7', rfl, hp7, h7, g7⟩
            have B7 := B6.next h7 g7
            clear B6 g6 h6 g7 h7
            have B8 := (B7.put v7).2
            have y0 := B7.x0
            have y1 := B7.x1
            have yf := B7.fx
            obtain ⟨u0, k0⟩ := B8.b0
            obtain ⟨u1, k1⟩ := B8.b1
            have kf := B8.fb
            have d0 := B8.x0
            have d1 := B8.x1
            obtain ⟨e0, e1⟩ := own2 k0 k1
            go_wp2_with fail
            refine bodyPost_ret (v := .agg #[.int .i64 (x1), .int .i64 (v7)]) (by simp [results, Try.results50, go_sem, e0, e1]) rfl (B8.done ⟨by omega, by omega⟩ ⟨by omega, by omega⟩ (by omega))
  · go_wp2_with fail
    obtain ⟨B, hB⟩ : ∃ B, B = w.heap.size := ⟨_, rfl⟩
    have c0 := G3.cell (a := ⟨w.heap.size, 0, none⟩) (v := .int .i64 0) (by simp [go_sem]) (by simp; omega)
    have c1 := G3.cell (a := ⟨w.heap.size, 1, none⟩) (v := .int .i64 0) (by simp [go_sem]) (by simp; omega)
    have cf : ∀ i, w3.frozen? ⟨w.heap.size, i, none⟩ = false := fun i => ((gcell G3).2 w.heap.size i (by simp) hne).trans (World.frozen?_alloc_new _ _ _ _)
    have hlt3 : w.heap.size < w3.heap.size := by have := G3.size; simp at this; omega
    have hwB : w.heap.size ≤ B := by omega
    rw [← hB] at c0 c1 cf hne hlt3
    rw [← hB]
    clear hB g0 h0 g1 g2 g3 G3 h1 h2
    refine region_inv3 [(0, 26), (1, 27), (2, 28), (3, 29), (4, 30), (5, 31), (6, 32), (7, 33), (8, 34), (9, 35), (10, 36)]
      (fun j v W => match j with
        | 0 => Five R B v W
        | 1 => v = .pointer (some ⟨R, 0, none⟩)
        | 2 => ∃ k : Nat, k < 5 ∧ v = .int .i64 k
        | 3 => Spotted R B v W
        | 4 => ∃ y, v = .int .i64 y ∧ I64 y
        | 5 => Five R B v W
        | 6 => v = .pointer (some ⟨R, 0, none⟩)
        | 7 => ∃ k : Nat, k < 5 ∧ v = .int .i64 k
        | 8 => Spotted R B v W
        | 9 => ∃ y, v = .int .i64 y ∧ I64 y
        | 10 => ∃ x y, v = .agg #[.int .i64 x, .int .i64 y] ∧ I64 x ∧ I64 y
        | 11 => TwoIn B W
        | _ => True)
      (SL w R a m c z (p2 + 1) B 2 7)
      (Kept R B 11)
      (by kernel_rfl) (by kernel_rfl) (by kernel_rfl) (by kernel_rfl) (by kernel_rfl) rfl ⟨h3.drew, grown_trans g03 (grown_drew _ _), hlt3, ⟨_, c0⟩, ⟨_, c1⟩, cf⟩ ?_ ?_ ?_
    · intro i j v W W' hji hφ hT
      match j, hji, hφ with
      | 0, _, hφ => exact Five.next hφ hT
      | 1, _, hφ => exact hφ
      | 2, _, hφ => exact hφ
      | 3, _, hφ => exact Spotted.next hφ hT
      | 4, _, hφ => exact hφ
      | 5, _, hφ => exact Five.next hφ hT
      | 6, _, hφ => exact hφ
      | 7, _, hφ => exact hφ
      | 8, _, hφ => exact Spotted.next hφ hT
      | 9, _, hφ => exact hφ
      | 10, _, hφ => exact hφ
      | 11, hji, hφ => exact TwoIn.next hφ hT hji
      | _ + 12, _, _ => trivial
    · intro i L vals W hi hφ hS hL hd
      have hi' : i < 12 := hi
      obtain ⟨hRd, hG, hX⟩ := hS
      have hS : SL w R a m c z (p2 + 1) B 2 7 L W := ⟨hRd, hG, hX⟩
      have hRs := hRd.size
      have hXs := hX.1
      have hBR : B ≠ R := hne
      rcases (show i = 0 ∨ i = 1 ∨ i = 2 ∨ i = 3 ∨ i = 4 ∨ i = 5 ∨ i = 6 ∨ i = 7 ∨ i = 8 ∨ i = 9 ∨ i = 10 ∨ i = 11 by omega) with rfl | rfl | rfl | rfl | rfl | rfl | rfl | rfl | rfl | rfl | rfl | rfl
      · refine wpAt_of rfl rfl ?_
        simp only [frOf, Act.put]
        go_wp2_with fail
        exact ⟨trivial, five_of hRs hXs rfl (by kernel_rfl), Kept.of hXs hBR (World.grownBy_alloc _ _ _), (hS.pure (by decide) (by decide)).alloc hBR _⟩
      · refine wpAt_of rfl rfl ?_
        simp only [frOf, Act.put]
        go_wp2_with fail
        exact ⟨trivial, rfl, Kept.refl _ _ _ _ _, hS.pure (by decide) (by decide)⟩
      · have k1 : vals 1 = .pointer (some ⟨R, 0, none⟩) := hφ 1 (hd 1 (by decide))
        have hb : p2 + 1 + (if L 2 then 1 else 0) + (if L 7 then 1 else 0) < 1000000 := by split <;> split <;> omega
        refine wpAt_of rfl rfl ?_
        simp only [frOf, Act.put]
        go_wp2_with fail
        refine (pick R a m c z _ 5 _ hRd (by omega) (by omega) hb).mono ?_
        rintro e W' ⟨x, hx1, hx2, rfl, hR', g⟩
        obtain ⟨k, rfl⟩ := Int.eq_ofNat_of_zero_le hx1
        go_wp2_with fail
        exact ⟨trivial, ⟨k, by omega, rfl⟩, Kept.of hXs hBR g, hS.fst hBR (by decide) hL hR' g⟩
      · obtain ⟨g, k1, q1, q2, q3, q4⟩ : Five R B (vals 0) W := hφ 0 (hd 0 (by decide))
        obtain ⟨k, hk, k2⟩ : ∃ k : Nat, k < 5 ∧ vals 2 = .int .i64 k := hφ 2 (hd 2 (by decide))
        have t1 : ((k : Int)).toNat = k := by omega
        have t2 : (0 : Int) ≤ (k : Int) := by omega
        have t3 : (k : Int) < 5 := by omega
        refine wpAt_of rfl rfl ?_
        simp only [frOf, Act.put]
        go_wp2_with fail
        exact ⟨trivial, ⟨g, k, rfl, q1, q2, q3, q4 k hk⟩, Kept.refl _ _ _ _ _, hS.pure (by decide) (by decide)⟩
      · obtain ⟨g, k, k1, q1, q2, q3, y, q4, q5⟩ : Spotted R B (vals 3) W := hφ 3 (hd 3 (by decide))
        refine wpAt_of rfl rfl ?_
        simp only [frOf, Act.put]
        go_wp2_with fail
        exact ⟨trivial, ⟨y, rfl, q5⟩, Kept.refl _ _ _ _ _, hS.pure (by decide) (by decide)⟩
      · refine wpAt_of rfl rfl ?_
        simp only [frOf, Act.put]
        go_wp2_with fail
        exact ⟨trivial, five_of hRs hXs rfl (by kernel_rfl), Kept.of hXs hBR (World.grownBy_alloc _ _ _), (hS.pure (by decide) (by decide)).alloc hBR _⟩
      · refine wpAt_of rfl rfl ?_
        simp only [frOf, Act.put]
        go_wp2_with fail
        exact ⟨trivial, rfl, Kept.refl _ _ _ _ _, hS.pure (by decide) (by decide)⟩
      · have k1 : vals 6 = .pointer (some ⟨R, 0, none⟩) := hφ 6 (hd 6 (by decide))
        have hb : p2 + 1 + (if L 2 then 1 else 0) + (if L 7 then 1 else 0) < 1000000 := by split <;> split <;> omega
        refine wpAt_of rfl rfl ?_
        simp only [frOf, Act.put]
        go_wp2_with fail
        refine (pick R a m c z _ 5 _ hRd (by omega) (by omega) hb).mono ?_
        rintro e W' ⟨x, hx1, hx2, rfl, hR', g⟩
        obtain ⟨k, rfl⟩ := Int.eq_ofNat_of_zero_le hx1
        go_wp2_with fail
        exact ⟨trivial, ⟨k, by omega, rfl⟩, Kept.of hXs hBR g, hS.snd hBR (by decide) hL hR' g⟩
      · obtain ⟨g, k1, q1, q2, q3, q4⟩ : Five R B (vals 5) W := hφ 5 (hd 5 (by decide))
        obtain ⟨k, hk, k2⟩ : ∃ k : Nat, k < 5 ∧ vals 7 = .int .i64 k := hφ 7 (hd 7 (by decide))
        have t1 : ((k : Int)).toNat = k := by omega
        have t2 : (0 : Int) ≤ (k : Int) := by omega
        have t3 : (k : Int) < 5 := by omega
        refine wpAt_of rfl rfl ?_
        simp only [frOf, Act.put]
        go_wp2_with fail
        exact ⟨trivial, ⟨g, k, rfl, q1, q2, q3, q4 k hk⟩, Kept.refl _ _ _ _ _, hS.pure (by decide) (by decide)⟩
      · obtain ⟨g, k, k1, q1, q2, q3, y, q4, q5⟩ : Spotted R B (vals 8) W := hφ 8 (hd 8 (by decide))
        refine wpAt_of rfl rfl ?_
        simp only [frOf, Act.put]
        go_wp2_with fail
        exact ⟨trivial, ⟨y, rfl, q5⟩, Kept.refl _ _ _ _ _, hS.pure (by decide) (by decide)⟩
      · obtain ⟨x, k1, q1⟩ : ∃ y, vals 4 = .int .i64 y ∧ I64 y := hφ 4 (hd 4 (by decide))
        obtain ⟨y, k2, q2⟩ : ∃ y, vals 9 = .int .i64 y ∧ I64 y := hφ 9 (hd 9 (by decide))
        refine wpAt_of rfl rfl ?_
        simp only [frOf, Act.put]
        go_wp2_with fail
        exact ⟨trivial, ⟨x, y, rfl, q1, q2⟩, Kept.refl _ _ _ _ _, hS.pure (by decide) (by decide)⟩
      · obtain ⟨x, y, k1, q1, q2⟩ : ∃ x y, vals 10 = .agg #[.int .i64 x, .int .i64 y] ∧ I64 x ∧ I64 y := hφ 10 (hd 10 (by decide))
        obtain ⟨_, ⟨u0, c0⟩, ⟨u1, c1⟩, cf⟩ := hX
        refine wpAt_none rfl rfl ?_
        simp only [frOf, Act.put]
        go_wp2_with fail
        exact ⟨trivial, two_set hS.2.2 q1 q2, kept_set _ _, (hS.pure (by decide) (by decide)).set hwB hR _ _⟩
    · intro L vals W hall hφ hS
      obtain ⟨h0, x, y, d0, d1, hx, hy⟩ : TwoIn B W := hφ 11 (by decide)
      obtain ⟨hRd, hG, hX⟩ := hS
      have l2 : L 2 = true := hall 2 (by decide)
      have l7 : L 7 = true := hall 7 (by decide)
      rw [l2, l7] at hRd
      simp only [frOf, Act.put]
      go_wp2_with fail
      refine bodyPost_ret (v := .agg #[.int .i64 x, .int .i64 y]) (by simp [results, Try.results50, go_sem, d0, d1]) rfl ⟨x, y, _, hx, hy, rfl, ?_, hRd, hG⟩
      simp; omega
  · clear g0 h0 g1 g2 g3 h1 h2
    by_cases hc : x1 < x2
    · have B3 : Bx w R a m c z (p2 + 1) w3.heap.size (x1) (x2) (w3.alloc (.cells #[.int .i64 (x1), .int .i64 (x2)] 25)) := Bx.new h3 g03 hR (hbox w3 (by assumption))
      go_wp2_with fail
      refine (oddS R a m c z (p2 + 1) n _ B3.rd (by omega) hn hn2).mono ?_
      rintro e w5 ⟨o, rfl, h5, g5⟩
      have B5 := B3.next h5 g5
      clear B3
      cases o
      · clear g5 h5
        obtain ⟨u0, k0⟩ := B5.b0
        obtain ⟨u1, k1⟩ := B5.b1
        have kf := B5.fb
        have d0 := B5.x0
        have d1 := B5.x1
        obtain ⟨e0, e1⟩ := own2 k0 k1
        go_wp2_with fail
        refine bodyPost_ret (v := .agg #[.int .i64 (x1), .int .i64 (x2)]) (by simp [results, Try.results50, go_sem, e0, e1]) rfl (B5.done ⟨by omega, by omega⟩ ⟨by omega, by omega⟩ (by omega))
      · go_wp2_with fail
        refine (pick R a m c z _ 3 _ h5 (by omega) (by omega) (by omega)).mono ?_
        rintro e w6 ⟨y6, hy6, hy6', rfl, h6, g6⟩
        have B6 := B5.next h6 g6
        clear B5 g5 h5
        obtain rfl | rfl | rfl : y6 = 0 ∨ y6 = 1 ∨ y6 = 2 := by omega
        · clear g6 h6
          obtain ⟨u0, k0⟩ := B6.b0
          obtain ⟨u1, k1⟩ := B6.b1
          have kf := B6.fb
          have d0 := B6.x0
          have d1 := B6.x1
          obtain ⟨e0, e1⟩ := own2 k0 k1
          go_wp2_with fail
          refine bodyPost_ret (v := .agg #[.int .i64 (x2), .int .i64 (x1)]) (by simp [results, Try.results50, go_sem, e0, e1]) rfl (B6.done ⟨by omega, by omega⟩ ⟨by omega, by omega⟩ (by omega))
        · go_wp2_with fail
          refine (rawS R a m c z _ _ h6 (by omega)).mono ?_
          rintro e w7 ⟨v7, p7, hv7, hv7', rfl, hp7, h7, g7⟩
          have B7 := B6.next h7 g7
          clear B6 g6 h6 g7 h7
          have B8 := (B7.put v7).1
          have y0 := B7.x0
          have y1 := B7.x1
          have yf := B7.fx
          obtain ⟨u0, k0⟩ := B8.b0
          obtain ⟨u1, k1⟩ := B8.b1
          have kf := B8.fb
          have d0 := B8.x0
          have d1 := B8.x1
          obtain ⟨e0, e1⟩ := own2 k0 k1
          go_wp2_with fail
          refine bodyPost_ret (v := .agg #[.int .i64 (v7), .int .i64 (x2)]) (by simp [results, Try.results50, go_sem, e0, e1]) rfl (B8.done ⟨by omega, by omega⟩ ⟨by omega, by omega⟩ (by omega))
        · go_wp2_with fail
          refine (rawS R a m c z _ _ h6 (by omega)).mono ?_
          rintro e w7 ⟨v7, p7, hv7, hv7', rfl, hp7, h7, g7⟩
          have B7 := B6.next h7 g7
          clear B6 g6 h6 g7 h7
          have B8 := (B7.put v7).2
          have y0 := B7.x0
          have y1 := B7.x1
          have yf := B7.fx
          obtain ⟨u0, k0⟩ := B8.b0
          obtain ⟨u1, k1⟩ := B8.b1
          have kf := B8.fb
          have d0 := B8.x0
          have d1 := B8.x1
          obtain ⟨e0, e1⟩ := own2 k0 k1
          go_wp2_with fail
          refine bodyPost_ret (v := .agg #[.int .i64 (x1), .int .i64 (v7)]) (by simp [results, Try.results50, go_sem, e0, e1]) rfl (B8.done ⟨by omega, by omega⟩ ⟨by omega, by omega⟩ (by omega))
    · by_cases he : x1 = x2
      · subst he
        have B3 : Bx w R a m c z (p2 + 1) w3.heap.size (x1) (x1) (w3.alloc (.cells #[.int .i64 (x1), .int .i64 (x1)] 25)) := Bx.new h3 g03 hR (hbox w3 (by assumption))
        go_wp2_with fail
        refine (oddS R a m c z (p2 + 1) n _ B3.rd (by omega) hn hn2).mono ?_
        rintro e w5 ⟨o, rfl, h5, g5⟩
        have B5 := B3.next h5 g5
        clear B3
        cases o
        · clear g5 h5
          obtain ⟨u0, k0⟩ := B5.b0
          obtain ⟨u1, k1⟩ := B5.b1
          have kf := B5.fb
          have d0 := B5.x0
          have d1 := B5.x1
          obtain ⟨e0, e1⟩ := own2 k0 k1
          go_wp2_with fail
          refine bodyPost_ret (v := .agg #[.int .i64 (x1), .int .i64 (x1)]) (by simp [results, Try.results50, go_sem, e0, e1]) rfl (B5.done ⟨by omega, by omega⟩ ⟨by omega, by omega⟩ (by omega))
        · go_wp2_with fail
          refine (pick R a m c z _ 3 _ h5 (by omega) (by omega) (by omega)).mono ?_
          rintro e w6 ⟨y6, hy6, hy6', rfl, h6, g6⟩
          have B6 := B5.next h6 g6
          clear B5 g5 h5
          obtain rfl | rfl | rfl : y6 = 0 ∨ y6 = 1 ∨ y6 = 2 := by omega
          · clear g6 h6
            obtain ⟨u0, k0⟩ := B6.b0
            obtain ⟨u1, k1⟩ := B6.b1
            have kf := B6.fb
            have d0 := B6.x0
            have d1 := B6.x1
            obtain ⟨e0, e1⟩ := own2 k0 k1
            go_wp2_with fail
            refine bodyPost_ret (v := .agg #[.int .i64 (x1), .int .i64 (x1)]) (by simp [results, Try.results50, go_sem, e0, e1]) rfl (B6.done ⟨by omega, by omega⟩ ⟨by omega, by omega⟩ (by omega))
          · go_wp2_with fail
            refine (rawS R a m c z _ _ h6 (by omega)).mono ?_
            rintro e w7 ⟨v7, p7, hv7, hv7', rfl, hp7, h7, g7⟩
            have B7 := B6.next h7 g7
            clear B6 g6 h6 g7 h7
            have B8 := (B7.put v7).1
            have y0 := B7.x0
            have y1 := B7.x1
            have yf := B7.fx
            obtain ⟨u0, k0⟩ := B8.b0
            obtain ⟨u1, k1⟩ := B8.b1
            have kf := B8.fb
            have d0 := B8.x0
            have d1 := B8.x1
            obtain ⟨e0, e1⟩ := own2 k0 k1
            go_wp2_with fail
            refine bodyPost_ret (v := .agg #[.int .i64 (v7), .int .i64 (x1)]) (by simp [results, Try.results50, go_sem, e0, e1]) rfl (B8.done ⟨by omega, by omega⟩ ⟨by omega, by omega⟩ (by omega))
          · go_wp2_with fail
            refine (rawS R a m c z _ _ h6 (by omega)).mono ?_
            rintro e w7 ⟨v7, p7, hv7, hv7', rfl, hp7, h7, g7⟩
            have B7 := B6.next h7 g7
            clear B6 g6 h6 g7 h7
            have B8 := (B7.put v7).2
            have y0 := B7.x0
            have y1 := B7.x1
            have yf := B7.fx
            obtain ⟨u0, k0⟩ := B8.b0
            obtain ⟨u1, k1⟩ := B8.b1
            have kf := B8.fb
            have d0 := B8.x0
            have d1 := B8.x1
            obtain ⟨e0, e1⟩ := own2 k0 k1
            go_wp2_with fail
            refine bodyPost_ret (v := .agg #[.int .i64 (x1), .int .i64 (v7)]) (by simp [results, Try.results50, go_sem, e0, e1]) rfl (B8.done ⟨by omega, by omega⟩ ⟨by omega, by omega⟩ (by omega))
      · have m1 : x2 < x1 := by omega
        have B3 : Bx w R a m c z (p2 + 1) w3.heap.size (x2) (x1) (w3.alloc (.cells #[.int .i64 (x2), .int .i64 (x1)] 25)) := Bx.new h3 g03 hR (hbox w3 (by assumption))
        go_wp2_with fail
        refine (oddS R a m c z (p2 + 1) n _ B3.rd (by omega) hn hn2).mono ?_
        rintro e w5 ⟨o, rfl, h5, g5⟩
        have B5 := B3.next h5 g5
        clear B3
        cases o
        · clear g5 h5
          obtain ⟨u0, k0⟩ := B5.b0
          obtain ⟨u1, k1⟩ := B5.b1
          have kf := B5.fb
          have d0 := B5.x0
          have d1 := B5.x1
          obtain ⟨e0, e1⟩ := own2 k0 k1
          go_wp2_with fail
          refine bodyPost_ret (v := .agg #[.int .i64 (x2), .int .i64 (x1)]) (by simp [results, Try.results50, go_sem, e0, e1]) rfl (B5.done ⟨by omega, by omega⟩ ⟨by omega, by omega⟩ (by omega))
        · go_wp2_with fail
          refine (pick R a m c z _ 3 _ h5 (by omega) (by omega) (by omega)).mono ?_
          rintro e w6 ⟨y6, hy6, hy6', rfl, h6, g6⟩
          have B6 := B5.next h6 g6
          clear B5 g5 h5
          obtain rfl | rfl | rfl : y6 = 0 ∨ y6 = 1 ∨ y6 = 2 := by omega
          · clear g6 h6
            obtain ⟨u0, k0⟩ := B6.b0
            obtain ⟨u1, k1⟩ := B6.b1
            have kf := B6.fb
            have d0 := B6.x0
            have d1 := B6.x1
            obtain ⟨e0, e1⟩ := own2 k0 k1
            go_wp2_with fail
            refine bodyPost_ret (v := .agg #[.int .i64 (x1), .int .i64 (x2)]) (by simp [results, Try.results50, go_sem, e0, e1]) rfl (B6.done ⟨by omega, by omega⟩ ⟨by omega, by omega⟩ (by omega))
          · go_wp2_with fail
            refine (rawS R a m c z _ _ h6 (by omega)).mono ?_
            rintro e w7 ⟨v7, p7, hv7, hv7', rfl, hp7, h7, g7⟩
            have B7 := B6.next h7 g7
            clear B6 g6 h6 g7 h7
            have B8 := (B7.put v7).1
            have y0 := B7.x0
            have y1 := B7.x1
            have yf := B7.fx
            obtain ⟨u0, k0⟩ := B8.b0
            obtain ⟨u1, k1⟩ := B8.b1
            have kf := B8.fb
            have d0 := B8.x0
            have d1 := B8.x1
            obtain ⟨e0, e1⟩ := own2 k0 k1
            go_wp2_with fail
            refine bodyPost_ret (v := .agg #[.int .i64 (v7), .int .i64 (x1)]) (by simp [results, Try.results50, go_sem, e0, e1]) rfl (B8.done ⟨by omega, by omega⟩ ⟨by omega, by omega⟩ (by omega))
          · go_wp2_with fail
            refine (rawS R a m c z _ _ h6 (by omega)).mono ?_
            rintro e w7 ⟨v7, p7, hv7, hv7', rfl, hp7, h7, g7⟩
            have B7 := B6.next h7 g7
            clear B6 g6 h6 g7 h7
            have B8 := (B7.put v7).2
            have y0 := B7.x0
            have y1 := B7.x1
            have yf := B7.fx
            obtain ⟨u0, k0⟩ := B8.b0
            obtain ⟨u1, k1⟩ := B8.b1
            have kf := B8.fb
            have d0 := B8.x0
            have d1 := B8.x1
            obtain ⟨e0, e1⟩ := own2 k0 k1
            go_wp2_with fail
            refine bodyPost_ret (v := .agg #[.int .i64 (x2), .int .i64 (v7)]) (by simp [results, Try.results50, go_sem, e0, e1]) rfl (B8.done ⟨by omega, by omega⟩ ⟨by omega, by omega⟩ (by omega))
end Go.Proofs.Ytiehokibfdaleaa
namespace Go.Proofs.Ytiehokibfdaleaa

def itvOk (a b : Int) : Bool := okB a && okB b && decide (a ≤ b)
theorem itvOk_of {a b : Int} (h : itvOk a b = true) : okB a = true ∧ okB b = true ∧ a ≤ b := by
  simp [itvOk] at h
  exact ⟨h.1.1, h.1.2, h.2⟩
def itvHas (a b n : Int) : Bool := itvOk a b && (decide (a ≤ n) && decide (n ≤ b))
def itvIn (a b c d : Int) : Bool := itvOk a b && itvOk c d && decide (c ≤ a) && decide (b ≤ d)
def two (a b c d : Int) : Bool := itvOk a b && itvOk c d
def joinLo (a b c d : Int) : Int := if two a b c d then min a c else 0
def joinHi (a b c d : Int) : Int := if two a b c d then max b d else 0
def meetOk (a b c d : Int) : Bool := two a b c d && decide (max a c ≤ min b d)
def meetLo (a b c d : Int) : Int := if meetOk a b c d then max a c else 0
def meetHi (a b c d : Int) : Int := if meetOk a b c d then min b d else 0
/-- How often 65536 lies below a number. -/
def turn (n : Int) : Int := (n + 32768) / 65536
theorem turn_pos (n : Int) (h : 0 ≤ n) : n.tdiv 65536 = n / 65536 := Int.tdiv_eq_ediv_of_nonneg h
theorem turn_neg (n : Int) (h : n < 0) : n.tdiv 65536 = -((-n) / 65536) := by
  have e : n.tdiv 65536 = -((-n).tdiv 65536) := by rw [Int.neg_tdiv]; omega
  rw [e, turn_pos _ (by omega)]
def far (n : Int) : Bool := decide (-1099511627776 ≤ n) && decide (n ≤ 1099511627776)
def foldOk (lo hi : Int) : Bool := far lo && far hi && decide (lo ≤ hi)
def foldLo (lo hi : Int) : Int := if foldOk lo hi then (if turn lo = turn hi then wr lo else -32768) else 0
def foldHi (lo hi : Int) : Int := if foldOk lo hi then (if turn lo = turn hi then wr hi else 32767) else 0
/-- The least and the greatest of four. -/
def spanLo (a b c d : Int) : Int := min (min a b) (min c d)
def spanHi (a b c d : Int) : Int := max (max a b) (max c d)
/-- Bounds of quotients, by bounds that hold more than 0. -/
def divLo (a b c d : Int) : Int :=
  if 0 ≤ c then spanLo (a.tdiv (max c 1)) (a.tdiv d) (b.tdiv (max c 1)) (b.tdiv d)
  else if d ≤ 0 then spanLo (a.tdiv c) (a.tdiv (min d (-1))) (b.tdiv c) (b.tdiv (min d (-1)))
  else min (spanLo (a.tdiv c) (a.tdiv (-1)) (b.tdiv c) (b.tdiv (-1))) (spanLo a (a.tdiv d) b (b.tdiv d))
def divHi (a b c d : Int) : Int :=
  if 0 ≤ c then spanHi (a.tdiv (max c 1)) (a.tdiv d) (b.tdiv (max c 1)) (b.tdiv d)
  else if d ≤ 0 then spanHi (a.tdiv c) (a.tdiv (min d (-1))) (b.tdiv c) (b.tdiv (min d (-1)))
  else max (spanHi (a.tdiv c) (a.tdiv (-1)) (b.tdiv c) (b.tdiv (-1))) (spanHi a (a.tdiv d) b (b.tdiv d))
theorem tdiv_small (a b : Int) (h1 : -32768 ≤ a) (h2 : a ≤ 32768) : -32768 ≤ a.tdiv b ∧ a.tdiv b ≤ 32768 := by
  have h : (a.tdiv b).natAbs ≤ a.natAbs := by rw [Int.natAbs_tdiv]; exact Nat.div_le_self _ _
  omega
/-- Reckoning with bounds. -/
def itvDoOk (op a b c d : Int) : Bool := two a b c d && (op == 1 || op == 2 || op == 3 || (op == 4 && !(c == 0 && d == 0)))
def itvDoLo (op a b c d : Int) : Int :=
  if itvDoOk op a b c d then
    (if op = 1 then foldLo (a + c) (b + d) else if op = 2 then foldLo (a - d) (b - c)
     else if op = 3 then foldLo (spanLo (a * c) (a * d) (b * c) (b * d)) (spanHi (a * c) (a * d) (b * c) (b * d))
     else foldLo (divLo a b c d) (divHi a b c d))
  else 0
def itvDoHi (op a b c d : Int) : Int :=
  if itvDoOk op a b c d then
    (if op = 1 then foldHi (a + c) (b + d) else if op = 2 then foldHi (a - d) (b - c)
     else if op = 3 then foldHi (spanLo (a * c) (a * d) (b * c) (b * d)) (spanHi (a * c) (a * d) (b * c) (b * d))
     else foldHi (divLo a b c d) (divHi a b c d))
  else 0
/-- Bounds without a number at their ends. -/
def cutOk (a b n : Int) : Bool := !(a == n && b == n)
def cutLo (a b n : Int) : Int := if cutOk a b n then (if a = n then n + 1 else a) else 0
def cutHi (a b n : Int) : Int := if cutOk a b n then (if b = n then n - 1 else b) else 0
/-- Two bounds and whether there are some. -/
structure Two where
  l0 : Int
  h0 : Int
  l1 : Int
  h1 : Int
  ok : Bool
def Two.none : Two := ⟨0, 0, 0, 0, false⟩
def Two.swap (r : Two) : Two := ⟨r.l1, r.h1, r.l0, r.h0, r.ok⟩
def both (a b c d : Int) : Two := if a ≤ b ∧ c ≤ d then ⟨a, b, c, d, true⟩ else Two.none
def otherOk1 (a b c d : Int) : Bool := if c = d then cutOk a b c else true
def otherOk (a b c d : Int) : Bool := if otherOk1 a b c d = true ∧ a = b then cutOk c d a else otherOk1 a b c d
def other (a b c d : Int) : Two :=
  if otherOk a b c d then ⟨if c = d then cutLo a b c else a, if c = d then cutHi a b c else b, if a = b then cutLo c d a else c, if a = b then cutHi c d a else d, true⟩
  else Two.none
def itvRel (rel a b c d : Int) : Two :=
  if two a b c d then
    (if rel = 1 then both a (min b (d - 1)) (max c (a + 1)) d
     else if rel = 2 then both a (min b d) (max c a) d
     else if rel = 3 then both (max a c) (min b d) (max a c) (min b d)
     else if rel = 4 then other a b c d
     else Two.none)
  else Two.none
def itvNot (rel a b c d : Int) : Two :=
  if rel = 1 then (itvRel 2 c d a b).swap
  else if rel = 2 then (itvRel 1 c d a b).swap
  else if rel = 3 then itvRel 4 a b c d
  else if rel = 4 then itvRel 3 a b c d
  else Two.none
end Go.Proofs.Ytiehokibfdaleaa
namespace Go.Proofs.Ytiehokibfdaleaa
open Go.ChangeShapes Go.WideShapes Go.ChangeAt Go.RowKit

theorem itvOkS (a b : Int) (w : World) :
    Calls Try.prog 22 #[.agg #[.int .i64 a, .int .i64 b]] w fun e w' => e = .returned (.bool (itvOk a b)) ∧ Below w.heap.size w w' := by
  have hbel := (Below.refl w.heap.size w).alloc (Nat.le_refl _) (.cells #[.int .i64 a, .int .i64 b] 25)
  rcases Bool.eq_false_or_eq_true (okB a) with ha | ha
  · rcases Bool.eq_false_or_eq_true (okB b) with hb | hb
    · go_enter Try.func22, Try.ntmps22
      go_wp2_with (go_at_call 47; refine (okS _ _).mono ?_; rintro e w' ⟨rfl, rfl⟩)
      all_goals go_ret
      all_goals exact ⟨ret_bool (by simp [itvOk, ha, hb]), hbel⟩
    · go_enter Try.func22, Try.ntmps22
      go_wp2_with (go_at_call 47; refine (okS _ _).mono ?_; rintro e w' ⟨rfl, rfl⟩)
      all_goals go_ret
      all_goals exact ⟨ret_bool (by simp [itvOk, hb]), hbel⟩
  · go_enter Try.func22, Try.ntmps22
    go_wp2_with (go_at_call 47; refine (okS _ _).mono ?_; rintro e w' ⟨rfl, rfl⟩)
    all_goals go_ret
    all_goals exact ⟨ret_bool (by simp [itvOk, ha]), hbel⟩

theorem inS1 (n lo hi : Int) (w : World) :
    Calls Try.prog 53 #[.int .i64 n, .int .i64 lo, .int .i64 hi] w fun e w' => e = .returned (.bool (decide (lo ≤ n) && decide (n ≤ hi))) ∧ w' = w := by
  by_cases h1 : lo ≤ n
  · by_cases h2 : n ≤ hi
    · go_enter Try.func53, Try.ntmps53
      go_wp2
      all_goals go_ret
      all_goals exact ⟨ret_bool (by simp [h1, h2]), rfl⟩
    · go_enter Try.func53, Try.ntmps53
      go_wp2
      all_goals go_ret
      all_goals exact ⟨ret_bool (by simp [h2]), rfl⟩
  · go_enter Try.func53, Try.ntmps53
    go_wp2
    all_goals go_ret
    all_goals exact ⟨ret_bool (by simp; omega), rfl⟩

set_option maxHeartbeats 1000000 in
theorem itvHasS (a b n : Int) (w : World) :
    Calls Try.prog 41 #[.agg #[.int .i64 a, .int .i64 b], .int .i64 n] w fun e w' => e = .returned (.bool (itvHas a b n)) ∧ Below w.heap.size w w' := by
  cases h : itvOk a b
  · go_enter Try.func41, Try.ntmps41
    go_wp2_with fail
    refine (itvOkS _ _ _).mono ?_
    rintro e w1 ⟨rfl, hb⟩
    have b1 := ((Below.refl w.heap.size w).alloc (Nat.le_refl _) _).trans (hb.mono (by simp))
    go_wp2_with fail
    go_ret
    exact ⟨ret_bool (by simp [itvHas, h]), b1⟩
  · go_enter Try.func41, Try.ntmps41
    go_wp2_with fail
    refine (itvOkS _ _ _).mono ?_
    rintro e w1 ⟨rfl, hb⟩
    have b1 := ((Below.refl w.heap.size w).alloc (Nat.le_refl _) _).trans (hb.mono (by simp))
    obtain ⟨hc, hf⟩ := bcell hb
    go_wp2_with (go_at_call 53; refine (inS1 _ _ _ _).mono ?_; rintro e w' ⟨rfl, rfl⟩)
    go_ret
    exact ⟨ret_bool (by simp [itvHas, h]), b1⟩

end Go.Proofs.Ytiehokibfdaleaa
namespace Go.Proofs.Ytiehokibfdaleaa
def TT (_ : Nat) (_ _ : World) : Prop := True
def Is (x v : Value) : Prop := v = x
end Go.Proofs.Ytiehokibfdaleaa
