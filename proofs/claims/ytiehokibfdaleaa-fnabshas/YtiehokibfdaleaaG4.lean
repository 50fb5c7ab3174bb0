/- What the drawing of bounds within bounds, and of two bounds, answers over a reader: some ints. · What the drawing of two bounds answers: some four ints; it makes memory of its own alone. · One invariant for all that draws over a reader (DS): the reader, with a budget of picks by how much is done; memory made behind a world; cells of which a property is known. -/
import Derived.Test.YtiehokibfdaleaaG3
namespace Go.Proofs.Ytiehokibfdaleaa
open Go.ChangeShapes Go.WideShapes Go.ChangeAt Go.RowKit

/-- What l20Inner holds: the reader, the bounds that came in, the answer's block, the new bounds. -/
structure Bi (w : World) (R : Nat) (a : Option Addr) (m c : Nat) (z : Nat → Int) (q : Nat) (lo hi xl xh : Int) (W : World) : Prop where
  rd : Rd W R a m c z q
  grown : w.grownBy W (some R)
  r : R < w.heap.size
  lt : w.heap.size + 1 + 1 < W.heap.size
  a0 : W.cell? ⟨w.heap.size, 0, none⟩ = some (.int .i64 lo)
  a1 : W.cell? ⟨w.heap.size, 1, none⟩ = some (.int .i64 hi)
  b0 : ∃ u, W.cell? ⟨w.heap.size + 1, 0, none⟩ = some u
  b1 : ∃ u, W.cell? ⟨w.heap.size + 1, 1, none⟩ = some u
  x0 : W.cell? ⟨w.heap.size + 1 + 1, 0, none⟩ = some (.int .i64 xl)
  x1 : W.cell? ⟨w.heap.size + 1 + 1, 1, none⟩ = some (.int .i64 xh)
  fb : ∀ i, W.frozen? ⟨w.heap.size + 1, i, none⟩ = false
  fx : ∀ i, W.frozen? ⟨w.heap.size + 1 + 1, i, none⟩ = false
theorem Bi.next {w : World} {R : Nat} {a : Option Addr} {m c : Nat} {z : Nat → Int} {q : Nat} {lo hi xl xh : Int} {W W' : World} {q' : Nat} (h : Bi w R a m c z q lo hi xl xh W) (hr : Rd W' R a m c z q') (g : W.grownBy W' (some R)) : Bi w R a m c z q' lo hi xl xh W' := by
  obtain ⟨hc, hf⟩ := gcell g
  have l := h.lt
  have r := h.r
  have c : ∀ k o, k ≤ 2 → W'.cell? ⟨w.heap.size + k, o, none⟩ = W.cell? ⟨w.heap.size + k, o, none⟩ := fun k o hk => hc _ _ (by omega) (by omega)
  have f : ∀ k o, k ≤ 2 → W'.frozen? ⟨w.heap.size + k, o, none⟩ = W.frozen? ⟨w.heap.size + k, o, none⟩ := fun k o hk => hf _ _ (by omega) (by omega)
  obtain ⟨u, hu⟩ := h.b0
  obtain ⟨v, hv⟩ := h.b1
  exact ⟨hr, grown_trans h.grown g, r, Nat.lt_of_lt_of_le l g.size, (c 0 0 (by omega)).trans h.a0, (c 0 1 (by omega)).trans h.a1, ⟨u, (c 1 0 (by omega)).trans hu⟩, ⟨v, (c 1 1 (by omega)).trans hv⟩, (c 2 0 (by omega)).trans h.x0, (c 2 1 (by omega)).trans h.x1, fun i => (f 1 i (by omega)).trans (h.fb i), fun i => (f 2 i (by omega)).trans (h.fx i)⟩
theorem grown_put {w W : World} {R B i : Nat} {v : Value} (hg : w.grownBy W (some R)) (hB : w.heap.size ≤ B) : w.grownBy (W.setCell ⟨B, i, none⟩ v) (some R) := by
  have gX := grown_set W B i v 0
  exact ⟨gX.os.trans hg.os, gX.tape.trans hg.tape, gX.output.trans hg.output, Nat.le_trans hg.size gX.size, fun k hk hne => (gX.block k (Nat.lt_of_lt_of_le hk hg.size) (fun e => by injection e with e; omega)).trans (hg.block k hk hne)⟩
theorem Rd.put {W : World} {R B i : Nat} {v : Value} {a : Option Addr} {m c : Nat} {z : Nat → Int} {q : Nat} (h : Rd W R a m c z q) (hB : R < B) : Rd (W.setCell ⟨B, i, none⟩ v) R a m c z q := h.kept (grown_set W B i v 0) (fun k hk => by injection hk with hk; omega)
theorem Bi.put {w : World} {R : Nat} {a : Option Addr} {m c : Nat} {z : Nat → Int} {q : Nat} {lo hi xl xh : Int} {W : World} (h : Bi w R a m c z q lo hi xl xh W) (v : Int) : Bi w R a m c z q lo hi v xh (W.setCell ⟨w.heap.size + 1 + 1, 0, none⟩ (.int .i64 v)) ∧ Bi w R a m c z q lo hi xl v (W.setCell ⟨w.heap.size + 1 + 1, 1, none⟩ (.int .i64 v)) := by
  have l := h.lt
  have r := h.r
  have o : ∀ k i j u, k < 2 → (W.setCell ⟨w.heap.size + 1 + 1, j, none⟩ u).cell? ⟨w.heap.size + k, i, none⟩ = W.cell? ⟨w.heap.size + k, i, none⟩ := fun k i j u hk => World.cell?_setCell_other _ _ _ _ (fun e => by injection e with e; omega)
  obtain ⟨u, hu⟩ := h.b0
  obtain ⟨u', hu'⟩ := h.b1
  refine ⟨⟨h.rd.put (by omega), grown_put h.grown (by omega), r, by simpa [World.setCell] using l, (o 0 0 0 _ (by omega)).trans h.a0, (o 0 1 0 _ (by omega)).trans h.a1, ⟨u, (o 1 0 0 _ (by omega)).trans hu⟩, ⟨u', (o 1 1 0 _ (by omega)).trans hu'⟩, World.cell?_setCell_same _ _ _ h.x0, ?_, fun i => by rw [World.frozen?_setCell]; exact h.fb i, fun i => by rw [World.frozen?_setCell]; exact h.fx i⟩, ⟨h.rd.put (by omega), grown_put h.grown (by omega), r, by simpa [World.setCell] using l, (o 0 0 1 _ (by omega)).trans h.a0, (o 0 1 1 _ (by omega)).trans h.a1, ⟨u, (o 1 0 1 _ (by omega)).trans hu⟩, ⟨u', (o 1 1 1 _ (by omega)).trans hu'⟩, ?_, World.cell?_setCell_same _ _ _ h.x1, fun i => by rw [World.frozen?_setCell]; exact h.fb i, fun i => by rw [World.frozen?_setCell]; exact h.fx i⟩⟩
  · rw [World.cell?_setCell_other _ _ _ _ (by simp)]; exact h.x1
  · rw [World.cell?_setCell_other _ _ _ _ (by simp)]; exact h.x0
/-- Some int of lo..hi. -/
def Rng (lo hi : Int) (v : Value) : Prop := ∃ n, lo ≤ n ∧ n ≤ hi ∧ v = .int .i64 n
/-- What a region of l20Inner holds, by what is done: two picks (x, y), and one of the new bounds' ends. -/
def SI (w : World) (R : Nat) (a : Option Addr) (m c : Nat) (z : Nat → Int) (q x y : Nat) (lo hi xl xh : Int) (s : Bool) (L : Nat → Bool) (W : World) : Prop :=
  ∃ v, lo ≤ v ∧ v ≤ hi ∧ Bi w R a m c z (q + (if L x then 1 else 0) + (if L y then 1 else 0)) lo hi (if s then v else xl) (if s then xh else v) W
theorem SI.pure {w : World} {R : Nat} {a : Option Addr} {m c : Nat} {z : Nat → Int} {q x y : Nat} {lo hi xl xh : Int} {s : Bool} {L : Nat → Bool} {W : World} (h : SI w R a m c z q x y lo hi xl xh s L W) {i : Nat} (h1 : x ≠ i) (h2 : y ≠ i) : SI w R a m c z q x y lo hi xl xh s (upd L i true) W := by
  unfold SI at *
  rw [upd_other _ _ h1, upd_other _ _ h2]
  exact h
theorem SI.fst {w : World} {R : Nat} {a : Option Addr} {m c : Nat} {z : Nat → Int} {q x y : Nat} {lo hi xl xh : Int} {s : Bool} {L : Nat → Bool} {W W' : World} (h : SI w R a m c z q x y lo hi xl xh s L W) (hxy : x ≠ y) (hx : L x = false) (hr : Rd W' R a m c z (q + (if L x then 1 else 0) + (if L y then 1 else 0) + 1)) (g : W.grownBy W' (some R)) : SI w R a m c z q x y lo hi xl xh s (upd L x true) W' := by
  obtain ⟨v, h1, h2, hB⟩ := h
  refine ⟨v, h1, h2, ?_⟩
  have := hB.next hr g
  rw [upd_same, upd_other _ _ (Ne.symm hxy)]
  rw [hx] at this
  simp only [Bool.false_eq_true, if_false, if_true] at this ⊢
  rwa [show q + 1 + (if L y = true then 1 else 0) = q + 0 + (if L y = true then 1 else 0) + 1 by omega]
theorem SI.snd {w : World} {R : Nat} {a : Option Addr} {m c : Nat} {z : Nat → Int} {q x y : Nat} {lo hi xl xh : Int} {s : Bool} {L : Nat → Bool} {W W' : World} (h : SI w R a m c z q x y lo hi xl xh s L W) (hxy : x ≠ y) (hy : L y = false) (hr : Rd W' R a m c z (q + (if L x then 1 else 0) + (if L y then 1 else 0) + 1)) (g : W.grownBy W' (some R)) : SI w R a m c z q x y lo hi xl xh s (upd L y true) W' := by
  obtain ⟨v, h1, h2, hB⟩ := h
  refine ⟨v, h1, h2, ?_⟩
  have := hB.next hr g
  rw [upd_same, upd_other _ _ hxy]
  rw [hy] at this
  simpa using this
theorem SI.put {w : World} {R : Nat} {a : Option Addr} {m c : Nat} {z : Nat → Int} {q x y : Nat} {lo hi xl xh : Int} {s : Bool} {L : Nat → Bool} {W : World} (h : SI w R a m c z q x y lo hi xl xh s L W) {n : Int} (h1 : lo ≤ n) (h2 : n ≤ hi) : SI w R a m c z q x y lo hi xl xh s L (W.setCell ⟨w.heap.size + 1 + 1, if s then 0 else 1, none⟩ (.int .i64 n)) := by
  obtain ⟨v, _, _, hB⟩ := h
  refine ⟨n, h1, h2, ?_⟩
  cases s
  · exact (hB.put n).2
  · exact (hB.put n).1
theorem Bi.done {w : World} {R : Nat} {a : Option Addr} {m c : Nat} {z : Nat → Int} {p q : Nat} {lo hi xl xh x y : Int} {W : World} (h : Bi w R a m c z q lo hi xl xh W) (hx : I64 x) (hy : I64 y) (hq : q ≤ p + 20) : DItv R a m c z p w (.returned (.agg #[.int .i64 x, .int .i64 y])) ((W.setCell ⟨w.heap.size + 1, 0, none⟩ (.int .i64 x)).setCell ⟨w.heap.size + 1, 1, none⟩ (.int .i64 y)) := by
  have l := h.lt
  have r := h.r
  exact ⟨x, y, q, hx, hy, rfl, hq, (h.rd.put (by omega)).put (by omega), grown_put (grown_put h.grown (by omega)) (by omega)⟩

set_option maxRecDepth 10000 in
set_option maxHeartbeats 8000000 in
theorem innerD (R : Nat) (a : Option Addr) (m c : Nat) (z : Nat → Int) (p : Nat) (lo hi : Int) (w : World) (h : Rd w R a m c z p) (hp : p < 500000) (h1 : -32768 ≤ lo) (h2 : lo ≤ hi) (h3 : hi ≤ 32767) :
    Calls Try.prog 52 #[.pointer (some ⟨R, 0, none⟩), .agg #[.int .i64 lo, .int .i64 hi]] w (DItv R a m c z p w) := by
  have hR := h.size
  have B0 : Bi w R a m c z p lo hi lo hi (((w.alloc (.cells #[.int .i64 lo, .int .i64 hi] 25)).alloc (.cells #[.int .i64 0, .int .i64 0] 25)).alloc (.cells #[.int .i64 lo, .int .i64 hi] 25)) := by
    have gA := World.grownBy_alloc w (.cells #[.int .i64 lo, .int .i64 hi] 25)
    have gB := World.grownBy_alloc (w.alloc (.cells #[.int .i64 lo, .int .i64 hi] 25)) (.cells #[.int .i64 0, .int .i64 0] 25)
    have gC := World.grownBy_alloc ((w.alloc (.cells #[.int .i64 lo, .int .i64 hi] 25)).alloc (.cells #[.int .i64 0, .int .i64 0] 25)) (.cells #[.int .i64 lo, .int .i64 hi] 25)
    exact ⟨h.kept (grown_trans (gA none) (grown_trans (gB none) (gC none))) (by simp), grown_trans (gA _) (grown_trans (gB _) (gC _)), hR, by simp, by simp [go_sem], by simp [go_sem], ⟨.int .i64 0, by simp [go_sem]⟩, ⟨.int .i64 0, by simp [go_sem]⟩, by simp [go_sem], by simp [go_sem], fun i => by simp [go_sem], fun i => by simp [go_sem]⟩
  go_enter Try.func52, Try.ntmps52
  go_wp2_with fail
  refine (pick R a m c z p 2 _ B0.rd (by omega) (by omega) (by omega)).mono ?_
  rintro e w4 ⟨y4, hy4, hy4', rfl, h4, g4⟩
  have B4 := B0.next h4 g4
  clear B0 h4 g4
  obtain rfl | rfl : y4 = 0 ∨ y4 = 1 := by omega
  · go_wp2_with fail
    have hS0 : SI w R a m c z (p + 1) 4 6 lo hi lo hi true (fun _ => false) w4.drew := ⟨lo, by omega, by omega, by simpa using B4.next (B4.rd.drew) (grown_drew _ _)⟩
    clear B4
    refine region_inv3 [(0, 16), (1, 17), (2, 18), (3, 19), (4, 20), (5, 21), (6, 22), (7, 23), (8, 24), (9, 25), (10, 26)]
      (fun j v _ => match j with
        | 0 => Is (.pointer (some ⟨w.heap.size, 0, none⟩)) v
        | 1 => Is (.int .i64 lo) v
        | 2 => Is (.int .i64 (hi - lo)) v
        | 3 => Is (.pointer (some ⟨R, 0, none⟩)) v
        | 4 => Rng 0 3 v
        | 5 => Is (.pointer (some ⟨R, 0, none⟩)) v
        | 6 => Rng 0 199 v
        | 7 => Rng 0 800 v
        | 8 => Rng 0 (hi - lo) v
        | 9 => Rng lo hi v
        | 10 => Is (.pointer (some ⟨w.heap.size + 1 + 1, 0, none⟩)) v
        | _ => True)
      (SI w R a m c z (p + 1) 4 6 lo hi lo hi true) TT
      (by kernel_rfl) (by kernel_rfl) (by kernel_rfl) (by kernel_rfl) (by kernel_rfl) rfl hS0 (fun i j v W W' _ h _ => h) ?_ ?_
    · intro i L vals W hi' hφ hS hL hd
      have hi2 : i < 12 := hi'
      obtain ⟨v0, hv0, hv0', hB⟩ := hS
      have hS : SI w R a m c z (p + 1) 4 6 lo hi lo hi true L W := ⟨v0, hv0, hv0', hB⟩
      have hRs := hB.rd.size
      rcases (show i = 0 ∨ i = 1 ∨ i = 2 ∨ i = 3 ∨ i = 4 ∨ i = 5 ∨ i = 6 ∨ i = 7 ∨ i = 8 ∨ i = 9 ∨ i = 10 ∨ i = 11 by omega) with rfl | rfl | rfl | rfl | rfl | rfl | rfl | rfl | rfl | rfl | rfl | rfl
      · refine wpAt_of rfl rfl ?_
        simp only [frOf, Act.put]
        go_wp2_with fail
        first | exact ⟨trivial, rfl, trivial, hS.pure (by decide) (by decide)⟩ | exact ⟨rfl, trivial, hS.pure (by decide) (by decide)⟩
      · have k1 : vals 0 = .pointer (some ⟨w.heap.size, 0, none⟩) := hφ 0 (hd 0 (by decide))
        have k2 := hB.a0
        refine wpAt_of rfl rfl ?_
        simp only [frOf, Act.put]
        go_wp2_with fail
        first | exact ⟨trivial, rfl, trivial, hS.pure (by decide) (by decide)⟩ | exact ⟨rfl, trivial, hS.pure (by decide) (by decide)⟩
      · refine wpAt_of rfl rfl ?_
        simp only [frOf, Act.put]
        go_wp2_with fail
        first | exact ⟨trivial, rfl, trivial, hS.pure (by decide) (by decide)⟩ | exact ⟨rfl, trivial, hS.pure (by decide) (by decide)⟩
      · refine wpAt_of rfl rfl ?_
        simp only [frOf, Act.put]
        go_wp2_with fail
        first | exact ⟨trivial, rfl, trivial, hS.pure (by decide) (by decide)⟩ | exact ⟨rfl, trivial, hS.pure (by decide) (by decide)⟩
      · have k1 : vals 3 = .pointer (some ⟨R, 0, none⟩) := hφ 3 (hd 3 (by decide))
        have hb : (p + 1) + (if L 4 then 1 else 0) + (if L 6 then 1 else 0) < 1000000 := by split <;> split <;> omega
        refine wpAt_of rfl rfl ?_
        simp only [frOf, Act.put]
        go_wp2_with fail
        refine (pick R a m c z _ 4 _ hB.rd (by omega) (by omega) hb).mono ?_
        rintro e W' ⟨k, hx1, hx2, rfl, hR', g⟩
        go_wp2_with fail
        first | exact ⟨trivial, ⟨k, hx1, by omega, rfl⟩, trivial, hS.fst (by decide) hL hR' g⟩ | exact ⟨⟨k, hx1, by omega, rfl⟩, trivial, hS.fst (by decide) hL hR' g⟩
      · refine wpAt_of rfl rfl ?_
        simp only [frOf, Act.put]
        go_wp2_with fail
        first | exact ⟨trivial, rfl, trivial, hS.pure (by decide) (by decide)⟩ | exact ⟨rfl, trivial, hS.pure (by decide) (by decide)⟩
      · have k1 : vals 5 = .pointer (some ⟨R, 0, none⟩) := hφ 5 (hd 5 (by decide))
        have hb : (p + 1) + (if L 4 then 1 else 0) + (if L 6 then 1 else 0) < 1000000 := by split <;> split <;> omega
        refine wpAt_of rfl rfl ?_
        simp only [frOf, Act.put]
        go_wp2_with fail
        refine (pick R a m c z _ 200 _ hB.rd (by omega) (by omega) hb).mono ?_
        rintro e W' ⟨k, hx1, hx2, rfl, hR', g⟩
        go_wp2_with fail
        first | exact ⟨trivial, ⟨k, hx1, by omega, rfl⟩, trivial, hS.snd (by decide) hL hR' g⟩ | exact ⟨⟨k, hx1, by omega, rfl⟩, trivial, hS.snd (by decide) hL hR' g⟩
      · obtain ⟨k, q1, q2, k1⟩ : Rng 0 3 (vals 4) := hφ 4 (hd 4 (by decide))
        obtain ⟨l, q3, q4, k2⟩ : Rng 0 199 (vals 6) := hφ 6 (hd 6 (by decide))
        have u1 : 0 ≤ k * l := Int.mul_nonneg q1 q3
        have u2 : k * l ≤ 800 := by
          have := Int.mul_le_mul (show k ≤ 4 by omega) (show l ≤ 200 by omega) q3 (by omega)
          omega
        refine wpAt_of rfl rfl ?_
        simp only [frOf, Act.put]
        go_wp2_with fail
        first | exact ⟨trivial, ⟨k * l, u1, u2, rfl⟩, trivial, hS.pure (by decide) (by decide)⟩ | exact ⟨⟨k * l, u1, u2, rfl⟩, trivial, hS.pure (by decide) (by decide)⟩
      · have k1 : vals 2 = .int .i64 (hi - lo) := hφ 2 (hd 2 (by decide))
        obtain ⟨n, q1, q2, k2⟩ : Rng 0 800 (vals 7) := hφ 7 (hd 7 (by decide))
        by_cases hc : hi - lo < n
        · refine wpAt_of rfl rfl ?_
          simp only [frOf, Act.put]
          go_wp2_with fail
          first | exact ⟨trivial, ⟨hi - lo, by omega, by omega, rfl⟩, trivial, hS.pure (by decide) (by decide)⟩ | exact ⟨⟨hi - lo, by omega, by omega, rfl⟩, trivial, hS.pure (by decide) (by decide)⟩
        · refine wpAt_of rfl rfl ?_
          simp only [frOf, Act.put]
          by_cases he : hi - lo = n
          · subst he
            go_wp2_with fail
            first | exact ⟨trivial, ⟨hi - lo, by omega, by omega, rfl⟩, trivial, hS.pure (by decide) (by decide)⟩ | exact ⟨⟨hi - lo, by omega, by omega, rfl⟩, trivial, hS.pure (by decide) (by decide)⟩
          · have hc' : n < hi - lo := by omega
            go_wp2_with fail
            first | exact ⟨trivial, ⟨n, by omega, by omega, rfl⟩, trivial, hS.pure (by decide) (by decide)⟩ | exact ⟨⟨n, by omega, by omega, rfl⟩, trivial, hS.pure (by decide) (by decide)⟩
      · have k1 : vals 1 = .int .i64 (lo) := hφ 1 (hd 1 (by decide))
        obtain ⟨n, q1, q2, k2⟩ : Rng 0 (hi - lo) (vals 8) := hφ 8 (hd 8 (by decide))
        refine wpAt_of rfl rfl ?_
        simp only [frOf, Act.put]
        go_wp2_with fail
        first | exact ⟨trivial, ⟨lo + n, by omega, by omega, rfl⟩, trivial, hS.pure (by decide) (by decide)⟩ | exact ⟨⟨lo + n, by omega, by omega, rfl⟩, trivial, hS.pure (by decide) (by decide)⟩
      · refine wpAt_of rfl rfl ?_
        simp only [frOf, Act.put]
        go_wp2_with fail
        first | exact ⟨trivial, rfl, trivial, hS.pure (by decide) (by decide)⟩ | exact ⟨rfl, trivial, hS.pure (by decide) (by decide)⟩
      · have k1 : vals 10 = .pointer (some ⟨w.heap.size + 1 + 1, 0, none⟩) := hφ 10 (hd 10 (by decide))
        obtain ⟨n, q1, q2, k2⟩ : Rng lo hi (vals 9) := hφ 9 (hd 9 (by decide))
        have d0 := hB.x0
        have d1 := hB.x1
        have df := hB.fx
        refine wpAt_none rfl rfl ?_
        simp only [frOf, Act.put]
        go_wp2_with fail
        first | exact ⟨trivial, trivial, trivial, SI.put (hS.pure (by decide) (by decide)) q1 q2⟩ | exact ⟨trivial, trivial, SI.put (hS.pure (by decide) (by decide)) q1 q2⟩ | exact ⟨trivial, SI.put (hS.pure (by decide) (by decide)) q1 q2⟩
    · intro L vals W hall hφ hS
      have l1 : L 4 = true := hall 4 (by decide)
      have l2 : L 6 = true := hall 6 (by decide)
      obtain ⟨v0, hv0, hv0', hB⟩ := hS
      rw [l1, l2] at hB
      simp only [if_true] at hB
      simp only [frOf, Act.put]
      go_wp2_with fail
      refine (pick R a m c z _ 2 _ hB.rd (by omega) (by omega) (by omega)).mono ?_
      rintro e w5 ⟨y5, hy5, hy5', rfl, h5, g5⟩
      have B5 := hB.next h5 g5
      clear hB h5 g5
      obtain rfl | rfl : y5 = 0 ∨ y5 = 1 := by omega
      · go_wp2_with fail
        have hS0 : SI w R a m c z (p + 1 + 1 + 1 + 1) 6 8 lo hi v0 hi false (fun _ => false) w5.drew := ⟨hi, by omega, by omega, by simpa using B5.next (B5.rd.drew) (grown_drew _ _)⟩
        clear B5
        refine region_inv3 [(0, 30), (1, 31), (2, 32), (3, 33), (4, 34), (5, 35), (6, 36), (7, 37), (8, 38), (9, 39), (10, 40), (11, 41), (12, 42), (13, 43)]
          (fun j v _ => match j with
            | 0 => Is (.pointer (some ⟨w.heap.size + 1 + 1, 0, none⟩)) v
            | 1 => Is (.int .i64 v0) v
            | 2 => Is (.pointer (some ⟨w.heap.size, 1, none⟩)) v
            | 3 => Is (.int .i64 hi) v
            | 4 => Is (.int .i64 (hi - lo)) v
            | 5 => Is (.pointer (some ⟨R, 0, none⟩)) v
            | 6 => Rng 0 3 v
            | 7 => Is (.pointer (some ⟨R, 0, none⟩)) v
            | 8 => Rng 0 199 v
            | 9 => Rng 0 800 v
            | 10 => Rng 0 (hi - lo) v
            | 11 => Rng lo hi v
            | 12 => Rng lo hi v
            | 13 => Is (.pointer (some ⟨w.heap.size + 1 + 1, 1, none⟩)) v
            | _ => True)
          (SI w R a m c z (p + 1 + 1 + 1 + 1) 6 8 lo hi v0 hi false) TT
          (by kernel_rfl) (by kernel_rfl) (by kernel_rfl) (by kernel_rfl) (by kernel_rfl) rfl hS0 (fun i j v W W' _ h _ => h) ?_ ?_
        · intro i L vals W hi' hφ hS hL hd
          have hi2 : i < 15 := hi'
          obtain ⟨v9, hv9, hv9', hB⟩ := hS
          have hS : SI w R a m c z (p + 1 + 1 + 1 + 1) 6 8 lo hi v0 hi false L W := ⟨v9, hv9, hv9', hB⟩
          have hRs := hB.rd.size
          rcases (show i = 0 ∨ i = 1 ∨ i = 2 ∨ i = 3 ∨ i = 4 ∨ i = 5 ∨ i = 6 ∨ i = 7 ∨ i = 8 ∨ i = 9 ∨ i = 10 ∨ i = 11 ∨ i = 12 ∨ i = 13 ∨ i = 14 by omega) with rfl | rfl | rfl | rfl | rfl | rfl | rfl | rfl | rfl | rfl | rfl | rfl | rfl | rfl | rfl
          · refine wpAt_of rfl rfl ?_
            simp only [frOf, Act.put]
            go_wp2_with fail
            first | exact ⟨trivial, rfl, trivial, hS.pure (by decide) (by decide)⟩ | exact ⟨rfl, trivial, hS.pure (by decide) (by decide)⟩
          · have k1 : vals 0 = .pointer (some ⟨w.heap.size + 1 + 1, 0, none⟩) := hφ 0 (hd 0 (by decide))
            have k2 := hB.x0
            refine wpAt_of rfl rfl ?_
            simp only [frOf, Act.put]
            go_wp2_with fail
            first | exact ⟨trivial, rfl, trivial, hS.pure (by decide) (by decide)⟩ | exact ⟨rfl, trivial, hS.pure (by decide) (by decide)⟩
          · refine wpAt_of rfl rfl ?_
            simp only [frOf, Act.put]
            go_wp2_with fail
            first | exact ⟨trivial, rfl, trivial, hS.pure (by decide) (by decide)⟩ | exact ⟨rfl, trivial, hS.pure (by decide) (by decide)⟩
          · have k1 : vals 2 = .pointer (some ⟨w.heap.size, 1, none⟩) := hφ 2 (hd 2 (by decide))
            have k2 := hB.a1
            refine wpAt_of rfl rfl ?_
            simp only [frOf, Act.put]
            go_wp2_with fail
            first | exact ⟨trivial, rfl, trivial, hS.pure (by decide) (by decide)⟩ | exact ⟨rfl, trivial, hS.pure (by decide) (by decide)⟩
          · refine wpAt_of rfl rfl ?_
            simp only [frOf, Act.put]
            go_wp2_with fail
            first | exact ⟨trivial, rfl, trivial, hS.pure (by decide) (by decide)⟩ | exact ⟨rfl, trivial, hS.pure (by decide) (by decide)⟩
          · refine wpAt_of rfl rfl ?_
            simp only [frOf, Act.put]
            go_wp2_with fail
            first | exact ⟨trivial, rfl, trivial, hS.pure (by decide) (by decide)⟩ | exact ⟨rfl, trivial, hS.pure (by decide) (by decide)⟩
          · have k1 : vals 5 = .pointer (some ⟨R, 0, none⟩) := hφ 5 (hd 5 (by decide))
            have hb : (p + 1 + 1 + 1 + 1) + (if L 6 then 1 else 0) + (if L 8 then 1 else 0) < 1000000 := by split <;> split <;> omega
            refine wpAt_of rfl rfl ?_
            simp only [frOf, Act.put]
            go_wp2_with fail
            refine (pick R a m c z _ 4 _ hB.rd (by omega) (by omega) hb).mono ?_
            rintro e W' ⟨k, hx1, hx2, rfl, hR', g⟩
            go_wp2_with fail
            first | exact ⟨trivial, ⟨k, hx1, by omega, rfl⟩, trivial, hS.fst (by decide) hL hR' g⟩ | exact ⟨⟨k, hx1, by omega, rfl⟩, trivial, hS.fst (by decide) hL hR' g⟩
          · refine wpAt_of rfl rfl ?_
            simp only [frOf, Act.put]
            go_wp2_with fail
            first | exact ⟨trivial, rfl, trivial, hS.pure (by decide) (by decide)⟩ | exact ⟨rfl, trivial, hS.pure (by decide) (by decide)⟩
          · have k1 : vals 7 = .pointer (some ⟨R, 0, none⟩) := hφ 7 (hd 7 (by decide))
            have hb : (p + 1 + 1 + 1 + 1) + (if L 6 then 1 else 0) + (if L 8 then 1 else 0) < 1000000 := by split <;> split <;> omega
            refine wpAt_of rfl rfl ?_
            simp only [frOf, Act.put]
            go_wp2_with fail
            refine (pick R a m c z _ 200 _ hB.rd (by omega) (by omega) hb).mono ?_
            rintro e W' ⟨k, hx1, hx2, rfl, hR', g⟩
            go_wp2_with fail
            first | exact ⟨trivial, ⟨k, hx1, by omega, rfl⟩, trivial, hS.snd (by decide) hL hR' g⟩ | exact ⟨⟨k, hx1, by omega, rfl⟩, trivial, hS.snd (by decide) hL hR' g⟩
          · obtain ⟨k, q1, q2, k1⟩ : Rng 0 3 (vals 6) := hφ 6 (hd 6 (by decide))
            obtain ⟨l, q3, q4, k2⟩ : Rng 0 199 (vals 8) := hφ 8 (hd 8 (by decide))
            have u1 : 0 ≤ k * l := Int.mul_nonneg q1 q3
            have u2 : k * l ≤ 800 := by
              have := Int.mul_le_mul (show k ≤ 4 by omega) (show l ≤ 200 by omega) q3 (by omega)
              omega
            refine wpAt_of rfl rfl ?_
            simp only [frOf, Act.put]
            go_wp2_with fail
            first | exact ⟨trivial, ⟨k * l, u1, u2, rfl⟩, trivial, hS.pure (by decide) (by decide)⟩ | exact ⟨⟨k * l, u1, u2, rfl⟩, trivial, hS.pure (by decide) (by decide)⟩
          · have k1 : vals 4 = .int .i64 (hi - lo) := hφ 4 (hd 4 (by decide))
            obtain ⟨n, q1, q2, k2⟩ : Rng 0 800 (vals 9) := hφ 9 (hd 9 (by decide))
            by_cases hc : hi - lo < n
            · refine wpAt_of rfl rfl ?_
              simp only [frOf, Act.put]
              go_wp2_with fail
              first | exact ⟨trivial, ⟨hi - lo, by omega, by omega, rfl⟩, trivial, hS.pure (by decide) (by decide)⟩ | exact ⟨⟨hi - lo, by omega, by omega, rfl⟩, trivial, hS.pure (by decide) (by decide)⟩
            · refine wpAt_of rfl rfl ?_
              simp only [frOf, Act.put]
              by_cases he : hi - lo = n
              · subst he
                go_wp2_with fail
                first | exact ⟨trivial, ⟨hi - lo, by omega, by omega, rfl⟩, trivial, hS.pure (by decide) (by decide)⟩ | exact ⟨⟨hi - lo, by omega, by omega, rfl⟩, trivial, hS.pure (by decide) (by decide)⟩
              · have hc' : n < hi - lo := by omega
                go_wp2_with fail
                first | exact ⟨trivial, ⟨n, by omega, by omega, rfl⟩, trivial, hS.pure (by decide) (by decide)⟩ | exact ⟨⟨n, by omega, by omega, rfl⟩, trivial, hS.pure (by decide) (by decide)⟩
          · have k1 : vals 3 = .int .i64 (hi) := hφ 3 (hd 3 (by decide))
            obtain ⟨n, q1, q2, k2⟩ : Rng 0 (hi - lo) (vals 10) := hφ 10 (hd 10 (by decide))
            refine wpAt_of rfl rfl ?_
            simp only [frOf, Act.put]
            go_wp2_with fail
            first | exact ⟨trivial, ⟨hi - n, by omega, by omega, rfl⟩, trivial, hS.pure (by decide) (by decide)⟩ | exact ⟨⟨hi - n, by omega, by omega, rfl⟩, trivial, hS.pure (by decide) (by decide)⟩
          · have k1 : vals 1 = .int .i64 v0 := hφ 1 (hd 1 (by decide))
            obtain ⟨n, q1, q2, k2⟩ : Rng lo hi (vals 11) := hφ 11 (hd 11 (by decide))
            refine wpAt_of rfl rfl ?_
            simp only [frOf, Act.put]
            by_cases hc : v0 < n
            · go_wp2_with fail
              first | exact ⟨trivial, ⟨n, by omega, by omega, rfl⟩, trivial, hS.pure (by decide) (by decide)⟩ | exact ⟨⟨n, by omega, by omega, rfl⟩, trivial, hS.pure (by decide) (by decide)⟩
            · by_cases he : v0 = n
              · subst he
                go_wp2_with fail
                first | exact ⟨trivial, ⟨v0, by omega, by omega, rfl⟩, trivial, hS.pure (by decide) (by decide)⟩ | exact ⟨⟨v0, by omega, by omega, rfl⟩, trivial, hS.pure (by decide) (by decide)⟩
              · have hc' : n < v0 := by omega
                go_wp2_with fail
                first | exact ⟨trivial, ⟨v0, by omega, by omega, rfl⟩, trivial, hS.pure (by decide) (by decide)⟩ | exact ⟨⟨v0, by omega, by omega, rfl⟩, trivial, hS.pure (by decide) (by decide)⟩
          · refine wpAt_of rfl rfl ?_
            simp only [frOf, Act.put]
            go_wp2_with fail
            first | exact ⟨trivial, rfl, trivial, hS.pure (by decide) (by decide)⟩ | exact ⟨rfl, trivial, hS.pure (by decide) (by decide)⟩
          · have k1 : vals 13 = .pointer (some ⟨w.heap.size + 1 + 1, 1, none⟩) := hφ 13 (hd 13 (by decide))
            obtain ⟨n, q1, q2, k2⟩ : Rng lo hi (vals 12) := hφ 12 (hd 12 (by decide))
            have d0 := hB.x0
            have d1 := hB.x1
            have df := hB.fx
            refine wpAt_none rfl rfl ?_
            simp only [frOf, Act.put]
            go_wp2_with fail
            first | exact ⟨trivial, trivial, trivial, SI.put (hS.pure (by decide) (by decide)) q1 q2⟩ | exact ⟨trivial, trivial, SI.put (hS.pure (by decide) (by decide)) q1 q2⟩ | exact ⟨trivial, SI.put (hS.pure (by decide) (by decide)) q1 q2⟩
        · intro L vals W hall hφ hS
          have l1 : L 6 = true := hall 6 (by decide)
          have l2 : L 8 = true := hall 8 (by decide)
          obtain ⟨v9, hv9, hv9', hB⟩ := hS
          rw [l1, l2] at hB
          simp only [if_true, Bool.false_eq_true, if_false] at hB
          simp only [frOf, Act.put]
          obtain ⟨u0, k0⟩ := hB.b0
          obtain ⟨u1, k1⟩ := hB.b1
          have kf := hB.fb
          have d0 := hB.x0
          have d1 := hB.x1
          obtain ⟨e0, e1⟩ := own2 k0 k1
          go_wp2_with fail
          refine bodyPost_ret (v := .agg #[.int .i64 v0, .int .i64 v9]) (by simp [results, Try.results52, go_sem, e0, e1]) rfl (hB.done ⟨by omega, by omega⟩ ⟨by omega, by omega⟩ (by omega))
      · obtain ⟨u0, k0⟩ := B5.b0
        obtain ⟨u1, k1⟩ := B5.b1
        have kf := B5.fb
        have d0 := B5.x0
        have d1 := B5.x1
        obtain ⟨e0, e1⟩ := own2 k0 k1
        go_wp2_with fail
        refine bodyPost_ret (v := .agg #[.int .i64 v0, .int .i64 hi]) (by simp [results, Try.results52, go_sem, e0, e1]) rfl (B5.done ⟨by omega, by omega⟩ ⟨by omega, by omega⟩ (by omega))
  · go_wp2_with fail
    refine (pick R a m c z _ 2 _ B4.rd (by omega) (by omega) (by omega)).mono ?_
    rintro e w5 ⟨y5, hy5, hy5', rfl, h5, g5⟩
    have B5 := B4.next h5 g5
    clear B4 h5 g5
    obtain rfl | rfl : y5 = 0 ∨ y5 = 1 := by omega
    · go_wp2_with fail
      have hS0 : SI w R a m c z (p + 1 + 1) 6 8 lo hi lo hi false (fun _ => false) w5.drew := ⟨hi, by omega, by omega, by simpa using B5.next (B5.rd.drew) (grown_drew _ _)⟩
      clear B5
      refine region_inv3 [(0, 30), (1, 31), (2, 32), (3, 33), (4, 34), (5, 35), (6, 36), (7, 37), (8, 38), (9, 39), (10, 40), (11, 41), (12, 42), (13, 43)]
        (fun j v _ => match j with
          | 0 => Is (.pointer (some ⟨w.heap.size + 1 + 1, 0, none⟩)) v
          | 1 => Is (.int .i64 lo) v
          | 2 => Is (.pointer (some ⟨w.heap.size, 1, none⟩)) v
          | 3 => Is (.int .i64 hi) v
          | 4 => Is (.int .i64 (hi - lo)) v
          | 5 => Is (.pointer (some ⟨R, 0, none⟩)) v
          | 6 => Rng 0 3 v
          | 7 => Is (.pointer (some ⟨R, 0, none⟩)) v
          | 8 => Rng 0 199 v
          | 9 => Rng 0 800 v
          | 10 => Rng 0 (hi - lo) v
          | 11 => Rng lo hi v
          | 12 => Rng lo hi v
          | 13 => Is (.pointer (some ⟨w.heap.size + 1 + 1, 1, none⟩)) v
          | _ => True)
        (SI w R a m c z (p + 1 + 1) 6 8 lo hi lo hi false) TT
        (by kernel_rfl) (by kernel_rfl) (by kernel_rfl) (by kernel_rfl) (by kernel_rfl) rfl hS0 (fun i j v W W' _ h _ => h) ?_ ?_
      · intro i L vals W hi' hφ hS hL hd
        have hi2 : i < 15 := hi'
        obtain ⟨v9, hv9, hv9', hB⟩ := hS
        have hS : SI w R a m c z (p + 1 + 1) 6 8 lo hi lo hi false L W := ⟨v9, hv9, hv9', hB⟩
        have hRs := hB.rd.size
        rcases (show i = 0 ∨ i = 1 ∨ i = 2 ∨ i = 3 ∨ i = 4 ∨ i = 5 ∨ i = 6 ∨ i = 7 ∨ i = 8 ∨ i = 9 ∨ i = 10 ∨ i = 11 ∨ i = 12 ∨ i = 13 ∨ i = 14 by omega) with rfl | rfl | rfl | rfl | rfl | rfl | rfl | rfl | rfl | rfl | rfl | rfl | rfl | rfl | rfl
        · refine wpAt_of rfl rfl ?_
          simp only [frOf, Act.put]
          go_wp2_with fail
          first | exact ⟨trivial, rfl, trivial, hS.pure (by decide) (by decide)⟩ | exact ⟨rfl, trivial, hS.pure (by decide) (by decide)⟩
        · have k1 : vals 0 = .pointer (some ⟨w.heap.size + 1 + 1, 0, none⟩) := hφ 0 (hd 0 (by decide))
          have k2 := hB.x0
          refine wpAt_of rfl rfl ?_
          simp only [frOf, Act.put]
          go_wp2_with fail
          first | exact ⟨trivial, rfl, trivial, hS.pure (by decide) (by decide)⟩ | exact ⟨rfl, trivial, hS.pure (by decide) (by decide)⟩
        · refine wpAt_of rfl rfl ?_
          simp only [frOf, Act.put]
          go_wp2_with fail
          first | exact ⟨trivial, rfl, trivial, hS.pure (by decide) (by decide)⟩ | exact ⟨rfl, trivial, hS.pure (by decide) (by decide)⟩
        · have k1 : vals 2 = .pointer (some ⟨w.heap.size, 1, none⟩) := hφ 2 (hd 2 (by decide))
          have k2 := hB.a1
          refine wpAt_of rfl rfl ?_
          simp only [frOf, Act.put]
          go_wp2_with fail
          first | exact ⟨trivial, rfl, trivial, hS.pure (by decide) (by decide)⟩ | exact ⟨rfl, trivial, hS.pure (by decide) (by decide)⟩
        · refine wpAt_of rfl rfl ?_
          simp only [frOf, Act.put]
          go_wp2_with fail
          first | exact ⟨trivial, rfl, trivial, hS.pure (by decide) (by decide)⟩ | exact ⟨rfl, trivial, hS.pure (by decide) (by decide)⟩
        · refine wpAt_of rfl rfl ?_
          simp only [frOf, Act.put]
          go_wp2_with fail
          first | exact ⟨trivial, rfl, trivial, hS.pure (by decide) (by decide)⟩ | exact ⟨rfl, trivial, hS.pure (by decide) (by decide)⟩
        · have k1 : vals 5 = .pointer (some ⟨R, 0, none⟩) := hφ 5 (hd 5 (by decide))
          have hb : (p + 1 + 1) + (if L 6 then 1 else 0) + (if L 8 then 1 else 0) < 1000000 := by split <;> split <;> omega
          refine wpAt_of rfl rfl ?_
          simp only [frOf, Act.put]
          go_wp2_with fail
          refine (pick R a m c z _ 4 _ hB.rd (by omega) (by omega) hb).mono ?_
          rintro e W' ⟨k, hx1, hx2, rfl, hR', g⟩
          go_wp2_with fail
          first | exact ⟨trivial, ⟨k, hx1, by omega, rfl⟩, trivial, hS.fst (by decide) hL hR' g⟩ | exact ⟨⟨k, hx1, by omega, rfl⟩, trivial, hS.fst (by decide) hL hR' g⟩
        · refine wpAt_of rfl rfl ?_
          simp only [frOf, Act.put]
          go_wp2_with fail
          first | exact ⟨trivial, rfl, trivial, hS.pure (by decide) (by decide)⟩ | exact ⟨rfl, trivial, hS.pure (by decide) (by decide)⟩
        · have k1 : vals 7 = .pointer (some ⟨R, 0, none⟩) := hφ 7 (hd 7 (by decide))
          have hb : (p + 1 + 1) + (if L 6 then 1 else 0) + (if L 8 then 1 else 0) < 1000000 := by split <;> split <;> omega
          refine wpAt_of rfl rfl ?_
          simp only [frOf, Act.put]
          go_wp2_with fail
          refine (pick R a m c z _ 200 _ hB.rd (by omega) (by omega) hb).mono ?_
          rintro e W' ⟨k, hx1, hx2, rfl, hR', g⟩
          go_wp2_with fail
          first | exact ⟨trivial, ⟨k, hx1, by omega, rfl⟩, trivial, hS.snd (by decide) hL hR' g⟩ | exact ⟨⟨k, hx1, by omega, rfl⟩, trivial, hS.snd (by decide) hL hR' g⟩
        · obtain ⟨k, q1, q2, k1⟩ : Rng 0 3 (vals 6) := hφ 6 (hd 6 (by decide))
          obtain ⟨l, q3, q4, k2⟩ : Rng 0 199 (vals 8) := hφ 8 (hd 8 (by decide))
          have u1 : 0 ≤ k * l := Int.mul_nonneg q1 q3
          have u2 : k * l ≤ 800 := by
            have := Int.mul_le_mul (show k ≤ 4 by omega) (show l ≤ 200 by omega) q3 (by omega)
            omega
          refine wpAt_of rfl rfl ?_
          simp only [frOf, Act.put]
          go_wp2_with fail
          first | exact ⟨trivial, ⟨k * l, u1, u2, rfl⟩, trivial, hS.pure (by decide) (by decide)⟩ | exact ⟨⟨k * l, u1, u2, rfl⟩, trivial, hS.pure (by decide) (by decide)⟩
        · have k1 : vals 4 = .int .i64 (hi - lo) := hφ 4 (hd 4 (by decide))
          obtain ⟨n, q1, q2, k2⟩ : Rng 0 800 (vals 9) := hφ 9 (hd 9 (by decide))
          by_cases hc : hi - lo < n
          · refine wpAt_of rfl rfl ?_
            simp only [frOf, Act.put]
            go_wp2_with fail
            first | exact ⟨trivial, ⟨hi - lo, by omega, by omega, rfl⟩, trivial, hS.pure (by decide) (by decide)⟩ | exact ⟨⟨hi - lo, by omega, by omega, rfl⟩, trivial, hS.pure (by decide) (by decide)⟩
          · refine wpAt_of rfl rfl ?_
            simp only [frOf, Act.put]
            by_cases he : hi - lo = n
            · subst he
              go_wp2_with fail
              first | exact ⟨trivial, ⟨hi - lo, by omega, by omega, rfl⟩, trivial, hS.pure (by decide) (by decide)⟩ | exact ⟨⟨hi - lo, by omega, by omega, rfl⟩, trivial, hS.pure (by decide) (by decide)⟩
            · have hc' : n < hi - lo := by omega
              go_wp2_with fail
              first | exact ⟨trivial, ⟨n, by omega, by omega, rfl⟩, trivial, hS.pure (by decide) (by decide)⟩ | exact ⟨⟨n, by omega, by omega, rfl⟩, trivial, hS.pure (by decide) (by decide)⟩
        · have k1 : vals 3 = .int .i64 (hi) := hφ 3 (hd 3 (by decide))
          obtain ⟨n, q1, q2, k2⟩ : Rng 0 (hi - lo) (vals 10) := hφ 10 (hd 10 (by decide))
          refine wpAt_of rfl rfl ?_
          simp only [frOf, Act.put]
          go_wp2_with fail
          first | exact ⟨trivial, ⟨hi - n, by omega, by omega, rfl⟩, trivial, hS.pure (by decide) (by decide)⟩ | exact ⟨⟨hi - n, by omega, by omega, rfl⟩, trivial, hS.pure (by decide) (by decide)⟩
        · have k1 : vals 1 = .int .i64 lo := hφ 1 (hd 1 (by decide))
          obtain ⟨n, q1, q2, k2⟩ : Rng lo hi (vals 11) := hφ 11 (hd 11 (by decide))
          refine wpAt_of rfl rfl ?_
          simp only [frOf, Act.put]
          by_cases hc : lo < n
          · go_wp2_with fail
            first | exact ⟨trivial, ⟨n, by omega, by omega, rfl⟩, trivial, hS.pure (by decide) (by decide)⟩ | exact ⟨⟨n, by omega, by omega, rfl⟩, trivial, hS.pure (by decide) (by decide)⟩
          · by_cases he : lo = n
            · subst he
              go_wp2_with fail
              first | exact ⟨trivial, ⟨lo, by omega, by omega, rfl⟩, trivial, hS.pure (by decide) (by decide)⟩ | exact ⟨⟨lo, by omega, by omega, rfl⟩, trivial, hS.pure (by decide) (by decide)⟩
            · have hc' : n < lo := by omega
              go_wp2_with fail
              first | exact ⟨trivial, ⟨lo, by omega, by omega, rfl⟩, trivial, hS.pure (by decide) (by decide)⟩ | exact ⟨⟨lo, by omega, by omega, rfl⟩, trivial, hS.pure (by decide) (by decide)⟩
        · refine wpAt_of rfl rfl ?_
          simp only [frOf, Act.put]
          go_wp2_with fail
          first | exact ⟨trivial, rfl, trivial, hS.pure (by decide) (by decide)⟩ | exact ⟨rfl, trivial, hS.pure (by decide) (by decide)⟩
        · have k1 : vals 13 = .pointer (some ⟨w.heap.size + 1 + 1, 1, none⟩) := hφ 13 (hd 13 (by decide))
          obtain ⟨n, q1, q2, k2⟩ : Rng lo hi (vals 12) := hφ 12 (hd 12 (by decide))
          have d0 := hB.x0
          have d1 := hB.x1
          have df := hB.fx
          refine wpAt_none rfl rfl ?_
          simp only [frOf, Act.put]
          go_wp2_with fail
          first | exact ⟨trivial, trivial, trivial, SI.put (hS.pure (by decide) (by decide)) q1 q2⟩ | exact ⟨trivial, trivial, SI.put (hS.pure (by decide) (by decide)) q1 q2⟩ | exact ⟨trivial, SI.put (hS.pure (by decide) (by decide)) q1 q2⟩
      · intro L vals W hall hφ hS
        have l1 : L 6 = true := hall 6 (by decide)
        have l2 : L 8 = true := hall 8 (by decide)
        obtain ⟨v9, hv9, hv9', hB⟩ := hS
        rw [l1, l2] at hB
        simp only [if_true, Bool.false_eq_true, if_false] at hB
        simp only [frOf, Act.put]
        obtain ⟨u0, k0⟩ := hB.b0
        obtain ⟨u1, k1⟩ := hB.b1
        have kf := hB.fb
        have d0 := hB.x0
        have d1 := hB.x1
        obtain ⟨e0, e1⟩ := own2 k0 k1
        go_wp2_with fail
        refine bodyPost_ret (v := .agg #[.int .i64 lo, .int .i64 v9]) (by simp [results, Try.results52, go_sem, e0, e1]) rfl (hB.done ⟨by omega, by omega⟩ ⟨by omega, by omega⟩ (by omega))
    · obtain ⟨u0, k0⟩ := B5.b0
      obtain ⟨u1, k1⟩ := B5.b1
      have kf := B5.fb
      have d0 := B5.x0
      have d1 := B5.x1
      obtain ⟨e0, e1⟩ := own2 k0 k1
      go_wp2_with fail
      refine bodyPost_ret (v := .agg #[.int .i64 lo, .int .i64 hi]) (by simp [results, Try.results52, go_sem, e0, e1]) rfl (B5.done ⟨by omega, by omega⟩ ⟨by omega, by omega⟩ (by omega))
end Go.Proofs.Ytiehokibfdaleaa
namespace Go.Proofs.Ytiehokibfdaleaa
open Go.ChangeShapes Go.WideShapes Go.ChangeAt Go.RowKit

def DTwo (w : World) (e : Ending) (w' : World) : Prop := ∃ x0 x1 y0 y1 : Int, I64 x0 ∧ I64 x1 ∧ I64 y0 ∧ I64 y1 ∧ e = .returned (.tuple #[.agg #[.int .i64 x0, .int .i64 x1], .agg #[.int .i64 y0, .int .i64 y1]]) ∧ Below w.heap.size w w'
theorem box_set {B C i : Nat} {W : World} {v : Value} (h : BoxIn B W) : BoxIn B (W.setCell ⟨C, i, none⟩ v) := by
  obtain ⟨h0, ⟨u, hu⟩, ⟨u', hu'⟩, hf⟩ := h
  have key : ∀ o u, W.cell? ⟨B, o, none⟩ = some u → ∃ u', (W.setCell ⟨C, i, none⟩ v).cell? ⟨B, o, none⟩ = some u' := by
    intro o u hu
    by_cases he : (⟨C, i, none⟩ : Addr) = ⟨B, o, none⟩
    · rw [he]; exact ⟨v, World.cell?_setCell_same _ _ _ hu⟩
    · exact ⟨u, (World.cell?_setCell_other _ _ _ _ he).trans hu⟩
  exact ⟨by simpa [World.setCell] using h0, key 0 u hu, key 1 u' hu', fun j => by rw [World.frozen?_setCell]; exact hf j⟩
theorem two_other {B C i : Nat} {W : World} {v : Value} (h : TwoIn B W) (hne : B ≠ C) : TwoIn B (W.setCell ⟨C, i, none⟩ v) := by
  obtain ⟨h0, x, y, h1, h2, h3⟩ := h
  have o : ∀ j, (W.setCell ⟨C, i, none⟩ v).cell? ⟨B, j, none⟩ = W.cell? ⟨B, j, none⟩ := fun j => World.cell?_setCell_other _ _ _ _ (fun e => hne (by injection e with e; exact e.symm))
  exact ⟨by simpa [World.setCell] using h0, x, y, (o 0).trans h1, (o 1).trans h2, h3⟩
/-- What DrawItvIn holds: the two answers' blocks, the first bounds' block. -/
structure Bw (w : World) (R X : Nat) (x y : Int) (W : World) : Prop where
  below : Below w.heap.size w W
  r : R = w.heap.size + 1 + 1
  rx : R < X
  lt : X < W.heap.size
  p0 : BoxIn w.heap.size W
  p1 : BoxIn (w.heap.size + 1) W
  c0 : W.cell? ⟨X, 0, none⟩ = some (.int .i64 x)
  c1 : W.cell? ⟨X, 1, none⟩ = some (.int .i64 y)
theorem Bw.next {w : World} {R X : Nat} {x y : Int} {W W' : World} (h : Bw w R X x y W) (g : W.grownBy W' (some R)) : Bw w R X x y W' := by
  have r := h.r
  have hx := h.rx
  obtain ⟨hc, _⟩ := gcell g
  exact ⟨below_at h.below g (by omega), r, hx, Nat.lt_of_lt_of_le h.lt g.size, h.p0.next (R := R) (by omega) g, h.p1.next (R := R) (by omega) g, (hc X 0 h.lt (by omega)).trans h.c0, (hc X 1 h.lt (by omega)).trans h.c1⟩
theorem grown_below {W W' : World} (b : Below W.heap.size W W') (row : Option Nat) : W.grownBy W' row := ⟨b.os, b.tape, b.output, b.size, fun k hk _ => b.block k hk⟩
theorem Bw.put {w : World} {R X : Nat} {x y : Int} {W : World} (h : Bw w R X x y W) {B i : Nat} (hB : w.heap.size ≤ B) (hB' : B < R) (v : Value) : Bw w R X x y (W.setCell ⟨B, i, none⟩ v) := by
  have r := h.r
  have hx := h.rx
  have o : ∀ j, (W.setCell ⟨B, i, none⟩ v).cell? ⟨X, j, none⟩ = W.cell? ⟨X, j, none⟩ := fun j => World.cell?_setCell_other _ _ _ _ (fun e => by injection e with e; omega)
  exact ⟨h.below.setCell hB v, r, hx, by simpa [World.setCell] using h.lt, box_set h.p0, box_set h.p1, (o 0).trans h.c0, (o 1).trans h.c1⟩
/-- What its last regions hold, by what is done: c the call that draws, s and t the two answers' stores. -/
def SW (w : World) (R X : Nat) (a : Option Addr) (m c : Nat) (z : Nat → Int) (q : Nat) (x y : Int) (k s t : Nat) (L : Nat → Bool) (W : World) : Prop :=
  Bw w R X x y W ∧ (L k = false → Rd W R a m c z q) ∧ (L s = true → TwoIn w.heap.size W) ∧ (L t = true → TwoIn (w.heap.size + 1) W) ∧ (L s = true → L k = true) ∧ (L t = true → L s = true)
theorem SW.pure {w : World} {R X : Nat} {a : Option Addr} {m c : Nat} {z : Nat → Int} {q : Nat} {x y : Int} {k s t : Nat} {L : Nat → Bool} {W : World} (h : SW w R X a m c z q x y k s t L W) {i : Nat} (h1 : k ≠ i) (h2 : s ≠ i) (h3 : t ≠ i) : SW w R X a m c z q x y k s t (upd L i true) W := by
  unfold SW at *
  rw [upd_other _ _ h1, upd_other _ _ h2, upd_other _ _ h3]
  exact h
theorem SW.call {w : World} {R X : Nat} {a : Option Addr} {m c : Nat} {z : Nat → Int} {q : Nat} {x y : Int} {k s t : Nat} {L : Nat → Bool} {W W' : World} (h : SW w R X a m c z q x y k s t L W) (hL : L k = false) (h2 : s ≠ k) (h3 : t ≠ k) (g : W.grownBy W' (some R)) : SW w R X a m c z q x y k s t (upd L k true) W' := by
  obtain ⟨hB, hr, h4, h5, h6, h7⟩ := h
  have n1 : L s = false := by
    cases hs : L s with
    | false => rfl
    | true => have := h6 hs; rw [hL] at this; cases this
  have n2 : L t = false := by
    cases hs : L t with
    | false => rfl
    | true => have := h7 hs; rw [n1] at this; cases this
  unfold SW
  rw [upd_same, upd_other _ _ h2, upd_other _ _ h3, n1, n2]
  exact ⟨hB.next g, by simp, by simp, by simp, by simp, by simp⟩
theorem SW.fst {w : World} {R X : Nat} {a : Option Addr} {m c : Nat} {z : Nat → Int} {q : Nat} {x y : Int} {k s t : Nat} {L : Nat → Bool} {W : World} (h : SW w R X a m c z q x y k s t L W) (hL : L s = false) (hk : L k = true) (h1 : k ≠ s) (h3 : t ≠ s) {u v : Int} (hu : I64 u) (hv : I64 v) : SW w R X a m c z q x y k s t (upd L s true) ((W.setCell ⟨w.heap.size, 0, none⟩ (.int .i64 u)).setCell ⟨w.heap.size, 1, none⟩ (.int .i64 v)) := by
  obtain ⟨hB, hr, h4, h5, h6, h7⟩ := h
  have n2 : L t = false := by
    cases hs : L t with
    | false => rfl
    | true => have := h7 hs; rw [hL] at this; cases this
  have r := hB.r
  unfold SW
  rw [upd_same, upd_other _ _ h1, upd_other _ _ h3, n2, hk]
  exact ⟨(hB.put (Nat.le_refl _) (by omega) _).put (Nat.le_refl _) (by omega) _, by simp, fun _ => two_set hB.p0 hu hv, by simp, by simp, by simp⟩
theorem SW.snd {w : World} {R X : Nat} {a : Option Addr} {m c : Nat} {z : Nat → Int} {q : Nat} {x y : Int} {k s t : Nat} {L : Nat → Bool} {W : World} (h : SW w R X a m c z q x y k s t L W) (hs : L s = true) (h1 : k ≠ t) (h3 : s ≠ t) {u v : Int} (hu : I64 u) (hv : I64 v) : SW w R X a m c z q x y k s t (upd L t true) ((W.setCell ⟨w.heap.size + 1, 0, none⟩ (.int .i64 u)).setCell ⟨w.heap.size + 1, 1, none⟩ (.int .i64 v)) := by
  obtain ⟨hB, hr, h4, h5, h6, h7⟩ := h
  have r := hB.r
  have hk := h6 hs
  unfold SW
  rw [upd_same, upd_other _ _ h1, upd_other _ _ h3, hs, hk]
  exact ⟨(hB.put (by omega) (by omega) _).put (by omega) (by omega) _, by simp, fun _ => two_other (two_other (h4 hs) (by omega)) (by omega), fun _ => two_set hB.p1 hu hv, by simp, by simp⟩
/-- Some two ints. -/
def Ag (v : Value) : Prop := ∃ u0 u1 : Int, v = .agg #[.int .i64 u0, .int .i64 u1] ∧ I64 u0 ∧ I64 u1

end Go.Proofs.Ytiehokibfdaleaa
namespace Go.Proofs.Ytiehokibfdaleaa
open Go.ChangeShapes Go.WideShapes Go.ChangeAt Go.RowKit

/-- How many of the first n are done. -/
def cnt (L : Nat → Bool) : Nat → Nat
  | 0 => 0
  | n + 1 => cnt L n + (if L n then 1 else 0)
theorem cnt_above {L : Nat → Bool} {i : Nat} : ∀ {n}, n ≤ i → cnt (upd L i true) n = cnt L n
  | 0, _ => rfl
  | n + 1, h => by
    show cnt (upd L i true) n + _ = cnt L n + _
    rw [cnt_above (by omega), upd_other _ _ (show n ≠ i by omega)]
theorem cnt_upd {L : Nat → Bool} {i : Nat} (hL : L i = false) : ∀ {n}, i < n → cnt (upd L i true) n = cnt L n + 1
  | 0, h => absurd h (by omega)
  | n + 1, h => by
    show cnt (upd L i true) n + _ = cnt L n + _ + 1
    by_cases e : i = n
    · subst e
      rw [cnt_above (Nat.le_refl _), upd_same, hL]
      simp
    · rw [cnt_upd hL (by omega), upd_other _ _ (show n ≠ i by omega)]
      omega
theorem cnt_le (L : Nat → Bool) : ∀ n, cnt L n ≤ n
  | 0 => Nat.le_refl _
  | n + 1 => by
    have := cnt_le L n
    show cnt L n + _ ≤ n + 1
    split <;> omega
theorem cnt_none : ∀ n, cnt (fun _ => false) n = 0
  | 0 => rfl
  | n + 1 => by show cnt _ n + _ = 0; rw [cnt_none n]; rfl

/-- Some int. -/
def IsI (v : Value) : Prop := ∃ n, v = .int .i64 n ∧ I64 n
def IsV (x v : Value) : Prop := v = x
structure Sp where
  b : Nat
  o : Nat
  P : Value → Prop
/-- The cells F of the world W, each with what is known of it: in memory that was made behind w, other than the reader's block R. -/
def Fs (w : World) (R : Nat) (F : List Sp) (W : World) : Prop :=
  ∀ f ∈ F, f.b ≠ R ∧ w.heap.size ≤ f.b ∧ f.b < W.heap.size ∧ W.frozen? ⟨f.b, f.o, none⟩ = false ∧ ∃ v, W.cell? ⟨f.b, f.o, none⟩ = some v ∧ f.P v
theorem Fs.next {w : World} {R : Nat} {F : List Sp} {W W' : World} (h : Fs w R F W) (g : W.grownBy W' (some R)) : Fs w R F W' := by
  obtain ⟨hc, hf⟩ := gcell g
  intro f hf'
  obtain ⟨h1, h2, h3, h4, v, h5, h6⟩ := h f hf'
  exact ⟨h1, h2, Nat.lt_of_lt_of_le h3 g.size, (hf _ _ h3 h1).trans h4, v, (hc _ _ h3 h1).trans h5, h6⟩
theorem Fs.alloc {w : World} {R : Nat} {F : List Sp} {W : World} (h : Fs w R F W) (o : Obj) : Fs w R F (W.alloc o) := h.next (World.grownBy_alloc _ _ _)
theorem Fs.drew {w : World} {R : Nat} {F : List Sp} {W : World} (h : Fs w R F W) : Fs w R F W.drew := h.next (grown_drew _ _)
theorem Fs.set {w : World} {R : Nat} {F : List Sp} {W : World} {B i : Nat} {v : Value} (h : Fs w R F W) (hv : ∀ f ∈ F, f.b = B → f.o = i → f.P v) : Fs w R F (W.setCell ⟨B, i, none⟩ v) := by
  intro f hf
  obtain ⟨h1, h2, h3, h4, u, h5, h6⟩ := h f hf
  refine ⟨h1, h2, by simpa [World.setCell] using h3, by rw [World.frozen?_setCell]; exact h4, ?_⟩
  by_cases he : f.b = B ∧ f.o = i
  · obtain ⟨rfl, rfl⟩ := he
    exact ⟨v, World.cell?_setCell_same _ _ _ h5, hv f hf rfl rfl⟩
  · exact ⟨u, (World.cell?_setCell_other _ _ _ _ (fun e => he (by injection e with e1 e2; exact ⟨e1.symm, e2.symm⟩))).trans h5, h6⟩
theorem Fs.cons {w : World} {R : Nat} {F : List Sp} {W : World} {f : Sp} (h1 : f.b ≠ R) (h2 : w.heap.size ≤ f.b) (h3 : f.b < W.heap.size) (h4 : W.frozen? ⟨f.b, f.o, none⟩ = false) {v : Value} (h5 : W.cell? ⟨f.b, f.o, none⟩ = some v) (h6 : f.P v) (h : Fs w R F W) : Fs w R (f :: F) W := by
  intro g hg
  rcases List.mem_cons.1 hg with rfl | hg
  · exact ⟨h1, h2, h3, h4, v, h5, h6⟩
  · exact h g hg
theorem Fs.nil (w : World) (R : Nat) (W : World) : Fs w R [] W := fun _ h => by cases h
/-- What draws, all told: w behind which memory is made, the reader R with at most Q picks done, the cells F. -/
structure Dr (w : World) (R : Nat) (a : Option Addr) (m c : Nat) (z : Nat → Int) (Q : Nat) (F : List Sp) (W : World) : Prop where
  rd : ∃ p, p ≤ Q ∧ Rd W R a m c z p
  grown : w.grownBy W (some R)
  fs : Fs w R F W
theorem Dr.next {w : World} {R : Nat} {a : Option Addr} {m c : Nat} {z : Nat → Int} {Q : Nat} {F : List Sp} {W W' : World} {p Q' : Nat} (h : Dr w R a m c z Q F W) (hr : Rd W' R a m c z p) (g : W.grownBy W' (some R)) (hp : p ≤ Q') : Dr w R a m c z Q' F W' :=
  ⟨⟨p, hp, hr⟩, grown_trans h.grown g, h.fs.next g⟩
theorem Dr.below {w : World} {R : Nat} {a : Option Addr} {m c : Nat} {z : Nat → Int} {Q : Nat} {F : List Sp} {W W' : World} (h : Dr w R a m c z Q F W) (b : Below W.heap.size W W') : Dr w R a m c z Q F W' := by
  obtain ⟨p, hp, hr⟩ := h.rd
  exact h.next (hr.kept (row := none) (grown_below b none) (by simp)) (grown_below b _) hp
theorem Dr.drew {w : World} {R : Nat} {a : Option Addr} {m c : Nat} {z : Nat → Int} {Q : Nat} {F : List Sp} {W : World} (h : Dr w R a m c z Q F W) : Dr w R a m c z Q F W.drew := h.below (Below.refl _ W).drew
theorem Dr.more {w : World} {R : Nat} {a : Option Addr} {m c : Nat} {z : Nat → Int} {Q Q' : Nat} {F : List Sp} {W : World} (h : Dr w R a m c z Q F W) (hq : Q ≤ Q') : Dr w R a m c z Q' F W := by
  obtain ⟨p, hp, hr⟩ := h.rd
  exact ⟨⟨p, by omega, hr⟩, h.grown, h.fs⟩
theorem Rd.put' {W : World} {R B i : Nat} {v : Value} {a : Option Addr} {m c : Nat} {z : Nat → Int} {q : Nat} (h : Rd W R a m c z q) (hB : B ≠ R) (hr : m = 0 ∨ ∀ b off, a = some ⟨b, off, none⟩ → b ≠ B) : Rd (W.setCell ⟨B, i, none⟩ v) R a m c z q := by
  have o : ∀ b j, b ≠ B → (W.setCell ⟨B, i, none⟩ v).cell? ⟨b, j, none⟩ = W.cell? ⟨b, j, none⟩ := fun b j hne => World.cell?_setCell_other _ _ _ _ (fun e => hne (by injection e with e; exact e.symm))
  refine ⟨by simpa [World.setCell] using h.size, (o R 0 (Ne.symm hB)).trans h.c0, (o R 1 (Ne.symm hB)).trans h.c1, by rw [World.frozen?_setCell]; exact h.fz, h.len, h.byte, ?_⟩
  rcases hr with h0 | hr
  · exact .inl h0
  rcases h.row with h0 | ⟨b, off, e, hb, hc⟩
  · exact .inl h0
  · exact .inr ⟨b, off, e, hb, fun j hj => (o b _ (hr b off e)).trans (hc j hj)⟩
/-- The reader's bytes lie in memory that was there ahead of w. -/
def Old (w : World) (a : Option Addr) (m : Nat) : Prop := m = 0 ∨ ∀ b off, a = some ⟨b, off, none⟩ → b < w.heap.size
theorem Dr.set {w : World} {R : Nat} {a : Option Addr} {m c : Nat} {z : Nat → Int} {Q : Nat} {F : List Sp} {W : World} (h : Dr w R a m c z Q F W) (ho : Old w a m) {B i : Nat} {v : Value} (hB : B ≠ R) (hw : w.heap.size ≤ B) (hv : ∀ f ∈ F, f.b = B → f.o = i → f.P v) : Dr w R a m c z Q F (W.setCell ⟨B, i, none⟩ v) := by
  obtain ⟨p, hp, hr⟩ := h.rd
  exact ⟨⟨p, hp, hr.put' hB (ho.imp id fun ho b off e => by have := ho b off e; omega)⟩, grown_put h.grown hw, h.fs.set hv⟩
theorem Dr.has {w : World} {R : Nat} {a : Option Addr} {m c : Nat} {z : Nat → Int} {Q : Nat} {F : List Sp} {W : World} (h : Dr w R a m c z Q F W) {f : Sp} (hf : f ∈ F) : ∃ v, W.cell? ⟨f.b, f.o, none⟩ = some v ∧ f.P v := (h.fs f hf).2.2.2.2
theorem Dr.free {w : World} {R : Nat} {a : Option Addr} {m c : Nat} {z : Nat → Int} {Q : Nat} {F : List Sp} {W : World} (h : Dr w R a m c z Q F W) {f : Sp} (hf : f ∈ F) : W.frozen? ⟨f.b, f.o, none⟩ = false := (h.fs f hf).2.2.2.1
theorem Dr.new {w : World} {R : Nat} {a : Option Addr} {m c : Nat} {z : Nat → Int} {Q : Nat} {F : List Sp} {W : World} (h : Dr w R a m c z Q F W) {x y : Value} {t : TypeId} {P P' : Value → Prop} (hx : P x) (hy : P' y) : Dr w R a m c z Q (⟨W.heap.size, 0, P⟩ :: ⟨W.heap.size, 1, P'⟩ :: F) (W.alloc (.cells #[x, y] t)) := by
  obtain ⟨p, hp, hr⟩ := h.rd
  have hR := hr.size
  have hs := h.grown.size
  refine ⟨⟨p, hp, hr.kept (World.grownBy_alloc _ _ none) (by simp)⟩, grown_trans h.grown (World.grownBy_alloc _ _ _), ?_⟩
  refine Fs.cons (by show W.heap.size ≠ R; omega) hs (by show W.heap.size < _; simp) (by simp [go_sem]) (v := x) (by simp [go_sem]) hx ?_
  exact Fs.cons (by show W.heap.size ≠ R; omega) hs (by show W.heap.size < _; simp) (by simp [go_sem]) (v := y) (by simp [go_sem]) hy (h.fs.alloc _)
/-- The same within a region of n operations, with K picks for each that is done. -/
def DS (w : World) (R : Nat) (a : Option Addr) (m c : Nat) (z : Nat → Int) (Q K n : Nat) (F : List Sp) (L : Nat → Bool) (W : World) : Prop := Dr w R a m c z (Q + K * cnt L n) F W
theorem DS.pure {w : World} {R : Nat} {a : Option Addr} {m c : Nat} {z : Nat → Int} {Q K n : Nat} {F : List Sp} {L : Nat → Bool} {W : World} (h : DS w R a m c z Q K n F L W) {i : Nat} (hL : L i = false) (hi : i < n) : DS w R a m c z Q K n F (upd L i true) W := by
  refine Dr.more h ?_
  rw [cnt_upd hL hi, Nat.mul_add]
  omega
theorem DS.call {w : World} {R : Nat} {a : Option Addr} {m c : Nat} {z : Nat → Int} {Q K n : Nat} {F : List Sp} {L : Nat → Bool} {W W' : World} (h : DS w R a m c z Q K n F L W) {i : Nat} (hL : L i = false) (hi : i < n) {p : Nat} (hr : Rd W' R a m c z p) (g : W.grownBy W' (some R)) (hp : p ≤ Q + K * cnt L n + K) : DS w R a m c z Q K n F (upd L i true) W' := by
  refine Dr.next h hr g ?_
  rw [cnt_upd hL hi, Nat.mul_add]
  omega
theorem DS.below {w : World} {R : Nat} {a : Option Addr} {m c : Nat} {z : Nat → Int} {Q K n : Nat} {F : List Sp} {L : Nat → Bool} {W W' : World} (h : DS w R a m c z Q K n F L W) (b : Below W.heap.size W W') : DS w R a m c z Q K n F L W' := Dr.below h b
theorem DS.set {w : World} {R : Nat} {a : Option Addr} {m c : Nat} {z : Nat → Int} {Q K n : Nat} {F : List Sp} {L : Nat → Bool} {W : World} (h : DS w R a m c z Q K n F L W) (ho : Old w a m) {B i : Nat} {v : Value} (hB : B ≠ R) (hw : w.heap.size ≤ B) (hv : ∀ f ∈ F, f.b = B → f.o = i → f.P v) : DS w R a m c z Q K n F L (W.setCell ⟨B, i, none⟩ v) := Dr.set h ho hB hw hv
theorem DS.start {w : World} {R : Nat} {a : Option Addr} {m c : Nat} {z : Nat → Int} {Q K n : Nat} {F : List Sp} {W : World} (h : Dr w R a m c z Q F W) : DS w R a m c z Q K n F (fun _ => false) W := by
  unfold DS
  rw [cnt_none]
  exact h
theorem DS.done {w : World} {R : Nat} {a : Option Addr} {m c : Nat} {z : Nat → Int} {Q K n : Nat} {F : List Sp} {L : Nat → Bool} {W : World} (h : DS w R a m c z Q K n F L W) : Dr w R a m c z (Q + K * n) F W := Dr.more h (by have := Nat.mul_le_mul_left K (cnt_le L n); omega)
theorem DS.bd {K n : Nat} {L : Nat → Bool} : K * cnt L n ≤ K * n := Nat.mul_le_mul_left K (cnt_le L n)
end Go.Proofs.Ytiehokibfdaleaa
