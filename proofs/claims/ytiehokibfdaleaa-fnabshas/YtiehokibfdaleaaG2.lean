/- What a walk holds on to while callees make memory of their own: some blocks of the call's own, cell by cell, and that nothing older has turned. No program in it. -/
import Derived.WalkKit
import Derived.Below
namespace Go.Proofs.Ytiehokibfdaleaa
open Go.RowKit

theorem bcell {W w1 : World} (hb : Below W.heap.size W w1) : (∀ b o, b < W.heap.size → w1.cell? ⟨b, o, none⟩ = W.cell? ⟨b, o, none⟩) ∧ (∀ b o, b < W.heap.size → w1.frozen? ⟨b, o, none⟩ = W.frozen? ⟨b, o, none⟩) :=
  ⟨fun b o h => hb.cell (p := ⟨b, o, none⟩) h, fun b o h => hb.frozen (p := ⟨b, o, none⟩) h⟩
theorem below_tr {W0 W1 W2 : World} (h1 : Below W0.heap.size W0 W1) (h2 : Below W1.heap.size W1 W2) : Below W0.heap.size W0 W2 := h1.trans (h2.mono h1.size)

/-- The same, one block further. -/
theorem bcellA {W w1 : World} (hb : Below W.heap.size W w1) : (∀ q b o, b < W.heap.size → (w1.alloc q).cell? ⟨b, o, none⟩ = W.cell? ⟨b, o, none⟩) ∧ (∀ q b o, b < W.heap.size → (w1.alloc q).frozen? ⟨b, o, none⟩ = W.frozen? ⟨b, o, none⟩) :=
  ⟨fun q b o h => (hb.alloc hb.size q).cell (p := ⟨b, o, none⟩) h, fun q b o h => (hb.alloc hb.size q).frozen (p := ⟨b, o, none⟩) h⟩
/-- What was written is read back, wherever there was a cell: a rule for 'simp'. -/
theorem cell_set {W : World} {p : Addr} {v : Value} (h : (W.cell? p).isSome = true) : (W.setCell p v).cell? p = some v := by
  obtain ⟨u, hu⟩ := Option.isSome_iff_exists.1 h
  exact World.cell?_setCell_same _ _ _ hu
/-- A block of two cells of one's own, turned: what is read back. -/
theorem own2 {W : World} {B : Nat} {u v : Value} (k0 : W.cell? ⟨B, 0, none⟩ = some u) (k1 : W.cell? ⟨B, 1, none⟩ = some v) : (∀ x, (W.setCell ⟨B, 0, none⟩ x).cell? ⟨B, 0, none⟩ = some x) ∧ (∀ x y, ((W.setCell ⟨B, 0, none⟩ x).setCell ⟨B, 1, none⟩ y).cell? ⟨B, 1, none⟩ = some y) :=
  ⟨fun _ => World.cell?_setCell_same _ _ _ k0, fun _ _ => World.cell?_setCell_same _ _ _ (u := v) (by rw [World.cell?_setCell_other _ _ _ _ (by simp)]; exact k1)⟩
theorem own4 {W : World} {B C : Nat} {u v : Value} (hne : C ≠ B) (m0 : W.cell? ⟨C, 0, none⟩ = some u) (m1 : W.cell? ⟨C, 1, none⟩ = some v) : (∀ x y z, (((W.setCell ⟨B, 0, none⟩ x).setCell ⟨B, 1, none⟩ y).setCell ⟨C, 0, none⟩ z).cell? ⟨C, 0, none⟩ = some z) ∧ (∀ x y z t, ((((W.setCell ⟨B, 0, none⟩ x).setCell ⟨B, 1, none⟩ y).setCell ⟨C, 0, none⟩ z).setCell ⟨C, 1, none⟩ t).cell? ⟨C, 1, none⟩ = some t) := by
  have n : ∀ i j, (⟨C, i, none⟩ : Addr) ≠ ⟨B, j, none⟩ := fun i j h => hne (by injection h)
  have k := fun x y => own2 (W := (W.setCell ⟨B, 0, none⟩ x).setCell ⟨B, 1, none⟩ y) (B := C) (u := u) (v := v) (by rw [World.cell?_setCell_other _ _ _ _ (by first | exact n _ _ | exact (n _ _).symm), World.cell?_setCell_other _ _ _ _ (by first | exact n _ _ | exact (n _ _).symm)]; exact m0) (by rw [World.cell?_setCell_other _ _ _ _ (by first | exact n _ _ | exact (n _ _).symm), World.cell?_setCell_other _ _ _ _ (by first | exact n _ _ | exact (n _ _).symm)]; exact m1)
  exact ⟨fun x y z => (k x y).1 z, fun x y z t => (k x y).2 z t⟩
/-- Two blocks of two cells each, next to each other: what a function holds that was handed two bounds. -/
def C4 (z : Nat) (a b c d : Int) (W : World) : Prop :=
  W.cell? ⟨z, 0, none⟩ = some (.int .i64 a) ∧ W.cell? ⟨z, 1, none⟩ = some (.int .i64 b) ∧ W.cell? ⟨z + 1, 0, none⟩ = some (.int .i64 c) ∧ W.cell? ⟨z + 1, 1, none⟩ = some (.int .i64 d)
theorem C4.next {z : Nat} {a b c d : Int} {V W : World} (h : C4 z a b c d V) (hz : z + 1 < V.heap.size) (hb : Below V.heap.size V W) : C4 z a b c d W :=
  have k := (bcell hb).1
  ⟨(k z 0 (by omega)).trans h.1, (k z 1 (by omega)).trans h.2.1, (k (z + 1) 0 hz).trans h.2.2.1, (k (z + 1) 1 hz).trans h.2.2.2⟩
theorem C4.set {z : Nat} {a b c d : Int} {V : World} {p : Addr} {v : Value} (h1 : z + 1 < p.block) (h : C4 z a b c d V) : C4 z a b c d (V.setCell p v) := by
  have k : ∀ q : Addr, q.block < p.block → (V.setCell p v).cell? q = V.cell? q := fun q hq => World.cell?_setCell_other _ _ _ _ (by intro x; rw [x] at hq; omega)
  exact ⟨(k _ (by dsimp only; omega)).trans h.1, (k _ (by dsimp only; omega)).trans h.2.1, (k _ h1).trans h.2.2.1, (k _ h1).trans h.2.2.2⟩
theorem C4.realloc {z : Nat} {a b c d : Int} {V : World} {o o' : Obj} (hz : z + 1 < V.heap.size) (h : C4 z a b c d (V.alloc o)) : C4 z a b c d (V.alloc o') := by
  have k : ∀ (q : Addr), q.block < V.heap.size → (V.alloc o').cell? q = (V.alloc o).cell? q := fun q hq => by rw [World.cell?_alloc_lt _ _ _ hq, World.cell?_alloc_lt _ _ _ hq]
  exact ⟨(k _ (by dsimp only; omega)).trans h.1, (k _ (by dsimp only; omega)).trans h.2.1, (k _ hz).trans h.2.2.1, (k _ hz).trans h.2.2.2⟩
/-- The blocks of L lie in W, each with its cells; below w nothing has turned. -/
structure HeldL (w : World) (L : List (Nat × List Value)) (W : World) : Prop where
  below : Below w.heap.size w W
  cells : ∀ e ∈ L, w.heap.size ≤ e.1 ∧ e.1 < W.heap.size ∧ ∀ i v, e.2[i]? = some v → W.cell? ⟨e.1, i, none⟩ = some v
  free : ∀ e ∈ L, ∀ i, W.frozen? ⟨e.1, i, none⟩ = false

theorem HeldL.next {w W W' : World} {L : List (Nat × List Value)} (hb : Below W.heap.size W W') (h : HeldL w L W) : HeldL w L W' :=
  ⟨h.below.trans (hb.mono h.below.size), fun e he => by
    obtain ⟨h1, h2, h3⟩ := h.cells e he
    exact ⟨h1, Nat.lt_of_lt_of_le h2 hb.size, fun i v hv => (hb.cell (p := ⟨e.1, i, none⟩) h2).trans (h3 i v hv)⟩,
    fun e he i => (hb.frozen (p := ⟨e.1, i, none⟩) (h.cells e he).2.1).trans (h.free e he i)⟩
theorem HeldL.alloc {w W : World} {L : List (Nat × List Value)} (o : Obj) (h : HeldL w L W) : HeldL w L (W.alloc o) := h.next ((Below.refl _ _).alloc (Nat.le_refl _) o)
theorem HeldL.drew {w W : World} {L : List (Nat × List Value)} (h : HeldL w L W) : HeldL w L W.drew := h.next (Below.refl _ W).drew
theorem HeldL.size {w W : World} {L : List (Nat × List Value)} (h : HeldL w L W) {e : Nat × List Value} (he : e ∈ L) : e.1 < W.heap.size := (h.cells e he).2.1
theorem HeldL.cell {w W : World} {L : List (Nat × List Value)} (h : HeldL w L W) {e : Nat × List Value} (he : e ∈ L) {i : Nat} {v : Value} (hv : e.2[i]? = some v) : W.cell? ⟨e.1, i, none⟩ = some v := (h.cells e he).2.2 i v hv
theorem HeldL.setCell {w W : World} {L : List (Nat × List Value)} (p : Addr) (v : Value) (hp : w.heap.size ≤ p.block) (hne : ∀ e ∈ L, e.1 ≠ p.block) (h : HeldL w L W) : HeldL w L (W.setCell p v) :=
  ⟨h.below.setCell hp v, fun e he => by
    obtain ⟨h1, h2, h3⟩ := h.cells e he
    refine ⟨h1, by simpa [World.setCell] using h2, fun i u hu => ?_⟩
    rw [World.cell?_setCell_other _ _ _ _ (by intro x; exact hne e he (by rw [x]))]
    exact h3 i u hu, fun e he i => by rw [World.frozen?_setCell]; exact h.free e he i⟩
/-- A block's own first cells, turned behind its making: those that lie below it stay. -/
theorem HeldL.realloc {w W : World} {L : List (Nat × List Value)} {o o' : Obj} (hw : w.heap.size ≤ W.heap.size) (hz : ∀ e ∈ L, e.1 < W.heap.size) (h : HeldL w L (W.alloc o)) : HeldL w L (W.alloc o') := by
  have hW : HeldL w L W := ⟨⟨h.below.os, h.below.tape, h.below.output, hw, fun k hk => by
      have := h.below.block k hk
      rwa [Below.heap_alloc W o k (by omega)] at this⟩, fun e he => by
    obtain ⟨h1, h2, h3⟩ := h.cells e he
    refine ⟨h1, hz e he, fun i v hv => ?_⟩
    have := h3 i v hv
    rwa [World.cell?_alloc_lt _ _ _ (hz e he)] at this, fun e he i => by
    exact (World.frozen?_alloc_past (w := W) o e.1 i (hz e he)).symm.trans (h.free e he i)⟩
  exact hW.alloc o'
theorem HeldL.sub {w W : World} {L L' : List (Nat × List Value)} (hs : ∀ e ∈ L', e ∈ L) (h : HeldL w L W) : HeldL w L' W := ⟨h.below, fun e he => h.cells e (hs e he), fun e he => h.free e (hs e he)⟩
theorem HeldL.nil (w : World) : HeldL w [] w := ⟨Below.refl _ _, (fun _ he => by cases he), (fun _ he => by cases he)⟩
/-- One block more: the one just made. -/
theorem HeldL.new {w W : World} {L : List (Nat × List Value)} {x y : Value} {t : TypeId} (h : HeldL w L W) : HeldL w ((W.heap.size, [x, y]) :: L) (W.alloc (.cells #[x, y] t)) :=
  ⟨(h.alloc _).below, fun e he => by
    rcases List.mem_cons.1 he with rfl | he
    · refine ⟨h.below.size, by simp, fun i v hv => ?_⟩
      unfold World.cell?
      rw [heap_alloc_new]
      match i, hv with
      | 0, hv => simpa using hv
      | 1, hv => simpa using hv
      | n + 2, hv => simp at hv
    · exact (h.alloc _).cells e he, fun e he i => by
    rcases List.mem_cons.1 he with rfl | he
    · exact World.frozen?_alloc_new _ _ _ _
    · exact (h.alloc _).free e he i⟩
/-- One block more: one made some calls ago, filled now. -/
theorem HeldL.old {w V W : World} {L : List (Nat × List Value)} {u v x y : Value} {t : TypeId} (hb : Below (V.alloc (.cells #[u, v] t)).heap.size (V.alloc (.cells #[u, v] t)) W) (hV : w.heap.size ≤ V.heap.size) (hz : ∀ e ∈ L, e.1 < V.heap.size) (h : HeldL w L W) :
    HeldL w ((V.heap.size, [x, y]) :: L) ((W.setCell ⟨V.heap.size, 0, none⟩ x).setCell ⟨V.heap.size, 1, none⟩ y) := by
  have hs : V.heap.size < W.heap.size := by have := hb.size; simp at this; omega
  have c0 : W.cell? ⟨V.heap.size, 0, none⟩ = some u := by
    rw [hb.cell (by simp)]
    unfold World.cell?
    rw [heap_alloc_new]; simp
  have c1 : W.cell? ⟨V.heap.size, 1, none⟩ = some v := by
    rw [hb.cell (by simp)]
    unfold World.cell?
    rw [heap_alloc_new]; simp
  have hh := (h.setCell ⟨V.heap.size, 0, none⟩ x hV (fun e he => by have := hz e he; simp only []; omega)).setCell ⟨V.heap.size, 1, none⟩ y hV (fun e he => by have := hz e he; simp only []; omega)
  refine ⟨hh.below, fun e he => ?_, fun e he i => ?_⟩
  case refine_2 =>
    rcases List.mem_cons.1 he with rfl | he
    · rw [World.frozen?_setCell, World.frozen?_setCell]
      exact (hb.frozen (p := ⟨V.heap.size, i, none⟩) (by simp)).trans (World.frozen?_alloc_new _ _ _ _)
    · exact hh.free e he i
  rcases List.mem_cons.1 he with rfl | he
  · refine ⟨hV, by simpa [World.setCell] using hs, fun i z hz' => ?_⟩
    match i, hz' with
    | 0, hz' =>
      rw [World.cell?_setCell_other _ _ _ _ (by simp), World.cell?_setCell_same _ _ _ c0]; simpa using hz'
    | 1, hz' =>
      rw [World.cell?_setCell_same _ _ _ (u := v) (by rw [World.cell?_setCell_other _ _ _ _ (by simp)]; exact c1)]; simpa using hz'
    | n + 2, hz' => simp at hz'
  · exact hh.cells e he
theorem HeldL.oldDrew {w V W : World} {L : List (Nat × List Value)} {u v x y : Value} {t : TypeId} (hb : Below (V.alloc (.cells #[u, v] t)).drew.heap.size (V.alloc (.cells #[u, v] t)).drew W) (hV : w.heap.size ≤ V.heap.size) (hz : ∀ e ∈ L, e.1 < V.heap.size) (h : HeldL w L W) :
    HeldL w ((V.heap.size, [x, y]) :: L) ((W.setCell ⟨V.heap.size, 0, none⟩ x).setCell ⟨V.heap.size, 1, none⟩ y) :=
  HeldL.old (V := V) (t := t) (((Below.refl _ (V.alloc (.cells #[u, v] t))).drew).trans hb) hV hz h
/-- What a function holds that was handed two bounds: their cells, and a list of blocks. -/
def K4 (w : World) (L : List (Nat × List Value)) (a b c d : Int) (W : World) : Prop :=
  W.cell? ⟨w.heap.size, 0, none⟩ = some (.int .i64 a) ∧ W.cell? ⟨w.heap.size, 1, none⟩ = some (.int .i64 b) ∧ W.cell? ⟨w.heap.size + 1, 0, none⟩ = some (.int .i64 c) ∧ W.cell? ⟨w.heap.size + 1, 1, none⟩ = some (.int .i64 d) ∧ HeldL w L W
theorem K4.of {w : World} {L : List (Nat × List Value)} {a b c d : Int} (hm : (w.heap.size, [.int .i64 a, .int .i64 b]) ∈ L ∧ (w.heap.size + 1, [.int .i64 c, .int .i64 d]) ∈ L) {W : World} (h : HeldL w L W) : K4 w L a b c d W :=
  ⟨h.cell hm.1 rfl, h.cell hm.1 rfl, h.cell hm.2 rfl, h.cell hm.2 rfl, h⟩
theorem K4.held {w : World} {L : List (Nat × List Value)} {a b c d : Int} {W : World} (h : K4 w L a b c d W) : HeldL w L W := h.2.2.2.2
/-- Two blocks, and one for the answer: as a function finds itself that was handed two bounds and answers bounds. -/
theorem held3 (w : World) (a b c d x y : Value) (t : TypeId) : HeldL w [(w.heap.size + 1 + 1, [x, y]), (w.heap.size + 1, [c, d]), (w.heap.size, [a, b])] (((w.alloc (.cells #[a, b] t)).alloc (.cells #[c, d] t)).alloc (.cells #[x, y] t)) := by
  have e1 : w.heap.size + 1 = (w.alloc (.cells #[a, b] t)).heap.size := by simp
  have e2 : w.heap.size + 1 + 1 = ((w.alloc (.cells #[a, b] t)).alloc (.cells #[c, d] t)).heap.size := by simp
  rw [e2, e1]
  exact HeldL.new (HeldL.new (HeldL.new (HeldL.nil w)))
/-- The first block's cells turned: the rest stays. -/
theorem HeldL.put {w W : World} {L : List (Nat × List Value)} {B : Nat} {u v x y : Value} (hB : w.heap.size ≤ B) (hne : ∀ e ∈ L, e.1 ≠ B) (h : HeldL w ((B, [u, v]) :: L) W) : HeldL w ((B, [x, y]) :: L) ((W.setCell ⟨B, 0, none⟩ x).setCell ⟨B, 1, none⟩ y) := by
  have hh := ((h.sub (L' := L) (fun e he => List.mem_cons_of_mem _ he)).setCell ⟨B, 0, none⟩ x hB hne).setCell ⟨B, 1, none⟩ y hB hne
  have m := List.mem_cons_self (a := (B, [u, v])) (l := L)
  obtain ⟨e0, e1⟩ := own2 (h.cell m (i := 0) rfl) (h.cell m (i := 1) rfl)
  refine ⟨hh.below, fun e he => ?_, fun e he i => ?_⟩
  · rcases List.mem_cons.1 he with rfl | he
    · refine ⟨hB, by simpa [World.setCell] using h.size m, fun i z hz => ?_⟩
      match i, hz with
      | 0, hz => rw [World.cell?_setCell_other _ _ _ _ (by simp), e0]; simpa using hz
      | 1, hz => rw [e1]; simpa using hz
      | n + 2, hz => simp at hz
    · exact hh.cells e he
  · rcases List.mem_cons.1 he with rfl | he
    · rw [World.frozen?_setCell, World.frozen?_setCell]; exact h.free _ m i
    · exact hh.free e he i
theorem held6 (w : World) (a b c d p q r s e f g h : Value) (t : TypeId) : HeldL w [(w.heap.size + 1 + 1 + 1 + 1 + 1, [g, h]), (w.heap.size + 1 + 1 + 1 + 1, [e, f]), (w.heap.size + 1 + 1 + 1, [r, s]), (w.heap.size + 1 + 1, [p, q]), (w.heap.size + 1, [c, d]), (w.heap.size, [a, b])] ((((((w.alloc (.cells #[a, b] t)).alloc (.cells #[c, d] t)).alloc (.cells #[p, q] t)).alloc (.cells #[r, s] t)).alloc (.cells #[e, f] t)).alloc (.cells #[g, h] t)) := by
  have e1 : w.heap.size + 1 = (w.alloc (.cells #[a, b] t)).heap.size := by simp
  have e2 : w.heap.size + 1 + 1 = ((w.alloc (.cells #[a, b] t)).alloc (.cells #[c, d] t)).heap.size := by simp
  have e3 : w.heap.size + 1 + 1 + 1 = (((w.alloc (.cells #[a, b] t)).alloc (.cells #[c, d] t)).alloc (.cells #[p, q] t)).heap.size := by simp
  have e4 : w.heap.size + 1 + 1 + 1 + 1 = ((((w.alloc (.cells #[a, b] t)).alloc (.cells #[c, d] t)).alloc (.cells #[p, q] t)).alloc (.cells #[r, s] t)).heap.size := by simp
  have e5 : w.heap.size + 1 + 1 + 1 + 1 + 1 = (((((w.alloc (.cells #[a, b] t)).alloc (.cells #[c, d] t)).alloc (.cells #[p, q] t)).alloc (.cells #[r, s] t)).alloc (.cells #[e, f] t)).heap.size := by simp
  rw [e5, e4, e3, e2, e1]
  exact HeldL.new (HeldL.new (HeldL.new (HeldL.new (HeldL.new (HeldL.new (HeldL.nil w))))))
theorem held4 (w : World) (a b c d p q r s : Value) (t : TypeId) : HeldL w [(w.heap.size + 1 + 1 + 1, [r, s]), (w.heap.size + 1 + 1, [p, q]), (w.heap.size + 1, [c, d]), (w.heap.size, [a, b])] ((((w.alloc (.cells #[a, b] t)).alloc (.cells #[c, d] t)).alloc (.cells #[p, q] t)).alloc (.cells #[r, s] t)) := by
  have e1 : w.heap.size + 1 = (w.alloc (.cells #[a, b] t)).heap.size := by simp
  have e2 : w.heap.size + 1 + 1 = ((w.alloc (.cells #[a, b] t)).alloc (.cells #[c, d] t)).heap.size := by simp
  have e3 : w.heap.size + 1 + 1 + 1 = (((w.alloc (.cells #[a, b] t)).alloc (.cells #[c, d] t)).alloc (.cells #[p, q] t)).heap.size := by simp
  rw [e3, e2, e1]
  exact HeldL.new (HeldL.new (HeldL.new (HeldL.new (HeldL.nil w))))
end Go.Proofs.Ytiehokibfdaleaa
