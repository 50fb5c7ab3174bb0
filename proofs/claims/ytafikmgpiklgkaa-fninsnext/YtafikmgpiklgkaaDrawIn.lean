/- What the drawing of bounds within bounds, and of two bounds, answers over a reader: some ints. -/
import Derived.Test.YtafikmgpiklgkaaDrawItv
import Derived.Test.YtafikmgpiklgkaaItv
namespace Go.Proofs.Ytafikmgpiklgkaa
open Go.ChangeShapes Go.WideShapes Go.ChangeAt Go.RowKit

/-- What l20Inner holds: the reader, the bounds that came in, the answer's block, the new bounds. -/
structure Bi (w : World) (R : Nat) (a : Option Addr) (m c : Nat) (z : Nat → Int) (q : Nat) (lo hi xl xh : Int) (W : World) : Prop where
  rd : Rd W R a m c z q
  grown : w.grownBy W (some R)
  r : R < w.heap.size
  lt : w.heap.size + 1 + 1 < W.heap.size
  a0 : W.cell? ⟨w.heap.size, 0, none⟩ = some (.int .i64 lo)
  a1 : W.cell? ⟨w.heap.size, 1, none⟩ = some (.int .i64 hi)
  b0 : ∃ u, W.cell? ⟨w.heap.size + 1, 0, none⟩ = some u
  b1 : ∃ u, W.cell? ⟨w.heap.size + 1, 1, none⟩ = some u
  x0 : W.cell? ⟨w.heap.size + 1 + 1, 0, none⟩ = some (.int .i64 xl)
  x1 : W.cell? ⟨w.heap.size + 1 + 1, 1, none⟩ = some (.int .i64 xh)
  fb : ∀ i, W.frozen? ⟨w.heap.size + 1, i, none⟩ = false
  fx : ∀ i, W.frozen? ⟨w.heap.size + 1 + 1, i, none⟩ = false
theorem Bi.next {w : World} {R : Nat} {a : Option Addr} {m c : Nat} {z : Nat → Int} {q : Nat} {lo hi xl xh : Int} {W W' : World} {q' : Nat} (h : Bi w R a m c z q lo hi xl xh W) (hr : Rd W' R a m c z q') (g : W.grownBy W' (some R)) : Bi w R a m c z q' lo hi xl xh W' := by
  obtain ⟨hc, hf⟩ := gcell g
  have l := h.lt
  have r := h.r
  have c : ∀ k o, k ≤ 2 → W'.cell? ⟨w.heap.size + k, o, none⟩ = W.cell? ⟨w.heap.size + k, o, none⟩ := fun k o hk => hc _ _ (by omega) (by omega)
  have f : ∀ k o, k ≤ 2 → W'.frozen? ⟨w.heap.size + k, o, none⟩ = W.frozen? ⟨w.heap.size + k, o, none⟩ := fun k o hk => hf _ _ (by omega) (by omega)
  obtain ⟨u, hu⟩ := h.b0
  obtain ⟨v, hv⟩ := h.b1
  exact ⟨hr, grown_trans h.grown g, r, Nat.lt_of_lt_of_le l g.size, (c 0 0 (by omega)).trans h.a0, (c 0 1 (by omega)).trans h.a1, ⟨u, (c 1 0 (by omega)).trans hu⟩, ⟨v, (c 1 1 (by omega)).trans hv⟩, (c 2 0 (by omega)).trans h.x0, (c 2 1 (by omega)).trans h.x1, fun i => (f 1 i (by omega)).trans (h.fb i), fun i => (f 2 i (by omega)).trans (h.fx i)⟩
theorem grown_put {w W : World} {R B i : Nat} {v : Value} (hg : w.grownBy W (some R)) (hB : w.heap.size ≤ B) : w.grownBy (W.setCell ⟨B, i, none⟩ v) (some R) := by
  have gX := grown_set W B i v 0
  exact ⟨gX.os.trans hg.os, gX.tape.trans hg.tape, gX.output.trans hg.output, Nat.le_trans hg.size gX.size, fun k hk hne => (gX.block k (Nat.lt_of_lt_of_le hk hg.size) (fun e => by injection e with e; omega)).trans (hg.block k hk hne)⟩
theorem Rd.put {W : World} {R B i : Nat} {v : Value} {a : Option Addr} {m c : Nat} {z : Nat → Int} {q : Nat} (h : Rd W R a m c z q) (hB : R < B) : Rd (W.setCell ⟨B, i, none⟩ v) R a m c z q := h.kept (grown_set W B i v 0) (fun k hk => by injection hk with hk; omega)
theorem Bi.put {w : World} {R : Nat} {a : Option Addr} {m c : Nat} {z : Nat → Int} {q : Nat} {lo hi xl xh : Int} {W : World} (h : Bi w R a m c z q lo hi xl xh W) (v : Int) : Bi w R a m c z q lo hi v xh (W.setCell ⟨w.heap.size + 1 + 1, 0, none⟩ (.int .i64 v)) ∧ Bi w R a m c z q lo hi xl v (W.setCell ⟨w.heap.size + 1 + 1, 1, none⟩ (.int .i64 v)) := by
  have l := h.lt
  have r := h.r
  have o : ∀ k i j u, k < 2 → (W.setCell ⟨w.heap.size + 1 + 1, j, none⟩ u).cell? ⟨w.heap.size + k, i, none⟩ = W.cell? ⟨w.heap.size + k, i, none⟩ := fun k i j u hk => World.cell?_setCell_other _ _ _ _ (fun e => by injection e with e; omega)
  obtain ⟨u, hu⟩ := h.b0
  obtain ⟨u', hu'⟩ := h.b1
  refine ⟨⟨h.rd.put (by omega), grown_put h.grown (by omega), r, by simpa [World.setCell] using l, (o 0 0 0 _ (by omega)).trans h.a0, (o 0 1 0 _ (by omega)).trans h.a1, ⟨u, (o 1 0 0 _ (by omega)).trans hu⟩, ⟨u', (o 1 1 0 _ (by omega)).trans hu'⟩, World.cell?_setCell_same _ _ _ h.x0, ?_, fun i => by rw [World.frozen?_setCell]; exact h.fb i, fun i => by rw [World.frozen?_setCell]; exact h.fx i⟩, ⟨h.rd.put (by omega), grown_put h.grown (by omega), r, by simpa [World.setCell] using l, (o 0 0 1 _ (by omega)).trans h.a0, (o 0 1 1 _ (by omega)).trans h.a1, ⟨u, (o 1 0 1 _ (by omega)).trans hu⟩, ⟨u', (o 1 1 1 _ (by omega)).trans hu'⟩, ?_, World.cell?_setCell_same _ _ _ h.x1, fun i => by rw [World.frozen?_setCell]; exact h.fb i, fun i => by rw [World.frozen?_setCell]; exact h.fx i⟩⟩
  · rw [World.cell?_setCell_other _ _ _ _ (by simp)]; exact h.x1
  · rw [World.cell?_setCell_other _ _ _ _ (by simp)]; exact h.x0
def TT (_ : Nat) (_ _ : World) : Prop := True
def Is (x v : Value) : Prop := v = x
/-- Some int of lo..hi. -/
def Rng (lo hi : Int) (v : Value) : Prop := ∃ n, lo ≤ n ∧ n ≤ hi ∧ v = .int .i64 n
/-- What a region of l20Inner holds, by what is done: two picks (x, y), and one of the new bounds' ends. -/
def SI (w : World) (R : Nat) (a : Option Addr) (m c : Nat) (z : Nat → Int) (q x y : Nat) (lo hi xl xh : Int) (s : Bool) (L : Nat → Bool) (W : World) : Prop :=
  ∃ v, lo ≤ v ∧ v ≤ hi ∧ Bi w R a m c z (q + (if L x then 1 else 0) + (if L y then 1 else 0)) lo hi (if s then v else xl) (if s then xh else v) W
theorem SI.pure {w : World} {R : Nat} {a : Option Addr} {m c : Nat} {z : Nat → Int} {q x y : Nat} {lo hi xl xh : Int} {s : Bool} {L : Nat → Bool} {W : World} (h : SI w R a m c z q x y lo hi xl xh s L W) {i : Nat} (h1 : x ≠ i) (h2 : y ≠ i) : SI w R a m c z q x y lo hi xl xh s (upd L i true) W := by
  unfold SI at *
  rw [upd_other _ _ h1, upd_other _ _ h2]
  exact h
theorem SI.fst {w : World} {R : Nat} {a : Option Addr} {m c : Nat} {z : Nat → Int} {q x y : Nat} {lo hi xl xh : Int} {s : Bool} {L : Nat → Bool} {W W' : World} (h : SI w R a m c z q x y lo hi xl xh s L W) (hxy : x ≠ y) (hx : L x = false) (hr : Rd W' R a m c z (q + (if L x then 1 else 0) + (if L y then 1 else 0) + 1)) (g : W.grownBy W' (some R)) : SI w R a m c z q x y lo hi xl xh s (upd L x true) W' := by
  obtain ⟨v, h1, h2, hB⟩ := h
  refine ⟨v, h1, h2, ?_⟩
  have := hB.next hr g
  rw [upd_same, upd_other _ _ (Ne.symm hxy)]
  rw [hx] at this
  simp only [Bool.false_eq_true, if_false, if_true] at this ⊢
  rwa [show q + 1 + (if L y = true then 1 else 0) = q + 0 + (if L y = true then 1 else 0) + 1 by omega]
theorem SI.snd {w : World} {R : Nat} {a : Option Addr} {m c : Nat} {z : Nat → Int} {q x y : Nat} {lo hi xl xh : Int} {s : Bool} {L : Nat → Bool} {W W' : World} (h : SI w R a m c z q x y lo hi xl xh s L W) (hxy : x ≠ y) (hy : L y = false) (hr : Rd W' R a m c z (q + (if L x then 1 else 0) + (if L y then 1 else 0) + 1)) (g : W.grownBy W' (some R)) : SI w R a m c z q x y lo hi xl xh s (upd L y true) W' := by
  obtain ⟨v, h1, h2, hB⟩ := h
  refine ⟨v, h1, h2, ?_⟩
  have := hB.next hr g
  rw [upd_same, upd_other _ _ hxy]
  rw [hy] at this
  simpa using this
theorem SI.put {w : World} {R : Nat} {a : Option Addr} {m c : Nat} {z : Nat → Int} {q x y : Nat} {lo hi xl xh : Int} {s : Bool} {L : Nat → Bool} {W : World} (h : SI w R a m c z q x y lo hi xl xh s L W) {n : Int} (h1 : lo ≤ n) (h2 : n ≤ hi) : SI w R a m c z q x y lo hi xl xh s L (W.setCell ⟨w.heap.size + 1 + 1, if s then 0 else 1, none⟩ (.int .i64 n)) := by
  obtain ⟨v, _, _, hB⟩ := h
  refine ⟨n, h1, h2, ?_⟩
  cases s
  · exact (hB.put n).2
  · exact (hB.put n).1
theorem Bi.done {w : World} {R : Nat} {a : Option Addr} {m c : Nat} {z : Nat → Int} {p q : Nat} {lo hi xl xh x y : Int} {W : World} (h : Bi w R a m c z q lo hi xl xh W) (hx : I64 x) (hy : I64 y) (hq : q ≤ p + 20) : DItv R a m c z p w (.returned (.agg #[.int .i64 x, .int .i64 y])) ((W.setCell ⟨w.heap.size + 1, 0, none⟩ (.int .i64 x)).setCell ⟨w.heap.size + 1, 1, none⟩ (.int .i64 y)) := by
  have l := h.lt
  have r := h.r
  exact ⟨x, y, q, hx, hy, rfl, hq, (h.rd.put (by omega)).put (by omega), grown_put (grown_put h.grown (by omega)) (by omega)⟩

end Go.Proofs.Ytafikmgpiklgkaa
