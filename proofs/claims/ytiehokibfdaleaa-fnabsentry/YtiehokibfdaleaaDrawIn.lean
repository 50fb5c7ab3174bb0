/- What the drawing of bounds within bounds, and of two bounds, answers over a reader: some ints. -/
import Derived.Test.YtiehokibfdaleaaDrawItv
import Derived.Test.YtiehokibfdaleaaItv
import Derived.Test.YtiehokibfdaleaaDrawIs
namespace Go.Proofs.Ytiehokibfdaleaa
open Go.ChangeShapes Go.WideShapes Go.ChangeAt Go.RowKit

/-- What l20Inner holds: the reader, the bounds that came in, the answer's block, the new bounds. -/
structure Bi (w : World) (R : Nat) (a : Option Addr) (m c : Nat) (z : Nat → Int) (q : Nat) (lo hi xl xh : Int) (W : World) : Prop where
  rd : Rd W R a m c z q
  grown : w.grownBy W (some R)
  r : R < w.heap.size
  lt : w.heap.size + 1 + 1 < W.heap.size
  a0 : W.cell? ⟨w.heap.size, 0, none⟩ = some (.int .i64 lo)
  a1 : W.cell? ⟨w.heap.size, 1, none⟩ = some (.int .i64 hi)
  b0 : ∃ u, W.cell? ⟨w.heap.size + 1, 0, none⟩ = some u
  b1 : ∃ u, W.cell? ⟨w.heap.size + 1, 1, none⟩ = some u
  x0 : W.cell? ⟨w.heap.size + 1 + 1, 0, none⟩ = some (.int .i64 xl)
  x1 : W.cell? ⟨w.heap.size + 1 + 1, 1, none⟩ = some (.int .i64 xh)
  fb : ∀ i, W.frozen? ⟨w.heap.size + 1, i, none⟩ = false
  fx : ∀ i, W.frozen? ⟨w.heap.size + 1 + 1, i, none⟩ = false
theorem Bi.next {w : World} {R : Nat} {a : Option Addr} {m c : Nat} {z : Nat → Int} {q : Nat} {lo hi xl xh : Int} {W W' : World} {q' : Nat} (h : Bi w R a m c z q lo hi xl xh W) (hr : Rd W' R a m c z q') (g : W.grownBy W' (some R)) : Bi w R a m c z q' lo hi xl xh W' := by
  obtain ⟨hc, hf⟩ := gcell g
  have l := h.lt
  have r := h.r
  have c : ∀ k o, k ≤ 2 → W'.cell? ⟨w.heap.size + k, o, none⟩ = W.cell? ⟨w.heap.size + k, o, none⟩ := fun k o hk => hc _ _ (by omega) (by omega)
  have f : ∀ k o, k ≤ 2 → W'.frozen? ⟨w.heap.size + k, o, none⟩ = W.frozen? ⟨w.heap.size + k, o, none⟩ := fun k o hk => hf _ _ (by omega) (by omega)
  obtain ⟨u, hu⟩ := h.b0
  obtain ⟨v, hv⟩ := h.b1
  exact ⟨hr, grown_trans h.grown g, r, Nat.lt_of_lt_of_le l g.size, (c 0 0 (by omega)).trans h.a0, (c 0 1 (by omega)).trans h.a1, ⟨u, (c 1 0 (by omega)).trans hu⟩, ⟨v, (c 1 1 (by omega)).trans hv⟩, (c 2 0 (by omega)).trans h.x0, (c 2 1 (by omega)).trans h.x1, fun i => (f 1 i (by omega)).trans (h.fb i), fun i => (f 2 i (by omega)).trans (h.fx i)⟩
theorem grown_put {w W : World} {R B i : Nat} {v : Value} (hg : w.grownBy W (some R)) (hB : w.heap.size ≤ B) : w.grownBy (W.setCell ⟨B, i, none⟩ v) (some R) := by
  have gX := grown_set W B i v 0
  exact ⟨gX.os.trans hg.os, gX.tape.trans hg.tape, gX.output.trans hg.output, Nat.le_trans hg.size gX.size, fun k hk hne => (gX.block k (Nat.lt_of_lt_of_le hk hg.size) (fun e => by injection e with e; omega)).trans (hg.block k hk hne)⟩
theorem Rd.put {W : World} {R B i : Nat} {v : Value} {a : Option Addr} {m c : Nat} {z : Nat → Int} {q : Nat} (h : Rd W R a m c z q) (hB : R < B) : Rd (W.setCell ⟨B, i, none⟩ v) R a m c z q := h.kept (grown_set W B i v 0) (fun k hk => by injection hk with hk; omega)
theorem Bi.put {w : World} {R : Nat} {a : Option Addr} {m c : Nat} {z : Nat → Int} {q : Nat} {lo hi xl xh : Int} {W : World} (h : Bi w R a m c z q lo hi xl xh W) (v : Int) : Bi w R a m c z q lo hi v xh (W.setCell ⟨w.heap.size + 1 + 1, 0, none⟩ (.int .i64 v)) ∧ Bi w R a m c z q lo hi xl v (W.setCell ⟨w.heap.size + 1 + 1, 1, none⟩ (.int .i64 v)) := by
  have l := h.lt
  have r := h.r
  have o : ∀ k i j u, k < 2 → (W.setCell ⟨w.heap.size + 1 + 1, j, none⟩ u).cell? ⟨w.heap.size + k, i, none⟩ = W.cell? ⟨w.heap.size + k, i, none⟩ := fun k i j u hk => World.cell?_setCell_other _ _ _ _ (fun e => by injection e with e; omega)
  obtain ⟨u, hu⟩ := h.b0
  obtain ⟨u', hu'⟩ := h.b1
  refine ⟨⟨h.rd.put (by omega), grown_put h.grown (by omega), r, by simpa [World.setCell] using l, (o 0 0 0 _ (by omega)).trans h.a0, (o 0 1 0 _ (by omega)).trans h.a1, ⟨u, (o 1 0 0 _ (by omega)).trans hu⟩, ⟨u', (o 1 1 0 _ (by omega)).trans hu'⟩, World.cell?_setCell_same _ _ _ h.x0, ?_, fun i => by rw [World.frozen?_setCell]; exact h.fb i, fun i => by rw [World.frozen?_setCell]; exact h.fx i⟩, ⟨h.rd.put (by omega), grown_put h.grown (by omega), r, by simpa [World.setCell] using l, (o 0 0 1 _ (by omega)).trans h.a0, (o 0 1 1 _ (by omega)).trans h.a1, ⟨u, (o 1 0 1 _ (by omega)).trans hu⟩, ⟨u', (o 1 1 1 _ (by omega)).trans hu'⟩, ?_, World.cell?_setCell_same _ _ _ h.x1, fun i => by rw [World.frozen?_setCell]; exact h.fb i, fun i => by rw [World.frozen?_setCell]; exact h.fx i⟩⟩
  · rw [World.cell?_setCell_other _ _ _ _ (by simp)]; exact h.x1
  · rw [World.cell?_setCell_other _ _ _ _ (by simp)]; exact h.x0
/-- Some int of lo..hi. -/
def Rng (lo hi : Int) (v : Value) : Prop := ∃ n, lo ≤ n ∧ n ≤ hi ∧ v = .int .i64 n
/-- What a region of l20Inner holds, by what is done: two picks (x, y), and one of the new bounds' ends. -/
def SI (w : World) (R : Nat) (a : Option Addr) (m c : Nat) (z : Nat → Int) (q x y : Nat) (lo hi xl xh : Int) (s : Bool) (L : Nat → Bool) (W : World) : Prop :=
  ∃ v, lo ≤ v ∧ v ≤ hi ∧ Bi w R a m c z (q + (if L x then 1 else 0) + (if L y then 1 else 0)) lo hi (if s then v else xl) (if s then xh else v) W
theorem SI.pure {w : World} {R : Nat} {a : Option Addr} {m c : Nat} {z : Nat → Int} {q x y : Nat} {lo hi xl xh : Int} {s : Bool} {L : Nat → Bool} {W : World} (h : SI w R a m c z q x y lo hi xl xh s L W) {i : Nat} (h1 : x ≠ i) (h2 : y ≠ i) : SI w R a m c z q x y lo hi xl xh s (upd L i true) W := by
  unfold SI at *
  rw [upd_other _ _ h1, upd_other _ _ h2]
  exact h
theorem SI.fst {w : World} {R : Nat} {a : Option Addr} {m c : Nat} {z : Nat → Int} {q x y : Nat} {lo hi xl xh : Int} {s : Bool} {L : Nat → Bool} {W W' : World} (h : SI w R a m c z q x y lo hi xl xh s L W) (hxy : x ≠ y) (hx : L x = false) (hr : Rd W' R a m c z (q + (if L x then 1 else 0) + (if L y then 1 else 0) + 1)) (g : W.grownBy W' (some R)) : SI w R a m c z q x y lo hi xl xh s (upd L x true) W' := by
  obtain ⟨v, h1, h2, hB⟩ := h
  refine ⟨v, h1, h2, ?_⟩
  have := hB.next hr g
  rw [upd_same, upd_other _ _ (Ne.symm hxy)]
  rw [hx] at this
  simp only [Bool.false_eq_true, if_false, if_true] at this ⊢
  rwa [show q + 1 + (if L y = true then 1 else 0) = q + 0 + (if L y = true then 1 else 0) + 1 by omega]
theorem SI.snd {w : World} {R : Nat} {a : Option Addr} {m c : Nat} {z : Nat → Int} {q x y : Nat} {lo hi xl xh : Int} {s : Bool} {L : Nat → Bool} {W W' : World} (h : SI w R a m c z q x y lo hi xl xh s L W) (hxy : x ≠ y) (hy : L y = false) (hr : Rd W' R a m c z (q + (if L x then 1 else 0) + (if L y then 1 else 0) + 1)) (g : W.grownBy W' (some R)) : SI w R a m c z q x y lo hi xl xh s (upd L y true) W' := by
  obtain ⟨v, h1, h2, hB⟩ := h
  refine ⟨v, h1, h2, ?_⟩
  have := hB.next hr g
  rw [upd_same, upd_other _ _ hxy]
  rw [hy] at this
  simpa using this
theorem SI.put {w : World} {R : Nat} {a : Option Addr} {m c : Nat} {z : Nat → Int} {q x y : Nat} {lo hi xl xh : Int} {s : Bool} {L : Nat → Bool} {W : World} (h : SI w R a m c z q x y lo hi xl xh s L W) {n : Int} (h1 : lo ≤ n) (h2 : n ≤ hi) : SI w R a m c z q x y lo hi xl xh s L (W.setCell ⟨w.heap.size + 1 + 1, if s then 0 else 1, none⟩ (.int .i64 n)) := by
  obtain ⟨v, _, _, hB⟩ := h
  refine ⟨n, h1, h2, ?_⟩
  cases s
  · exact (hB.put n).2
  · exact (hB.put n).1
theorem Bi.done {w : World} {R : Nat} {a : Option Addr} {m c : Nat} {z : Nat → Int} {p q : Nat} {lo hi xl xh x y : Int} {W : World} (h : Bi w R a m c z q lo hi xl xh W) (hx : I64 x) (hy : I64 y) (hq : q ≤ p + 20) : DItv R a m c z p w (.returned (.agg #[.int .i64 x, .int .i64 y])) ((W.setCell ⟨w.heap.size + 1, 0, none⟩ (.int .i64 x)).setCell ⟨w.heap.size + 1, 1, none⟩ (.int .i64 y)) := by
  have l := h.lt
  have r := h.r
  exact ⟨x, y, q, hx, hy, rfl, hq, (h.rd.put (by omega)).put (by omega), grown_put (grown_put h.grown (by omega)) (by omega)⟩

set_option maxRecDepth 10000 in
set_option maxHeartbeats 8000000 in
theorem innerD (R : Nat) (a : Option Addr) (m c : Nat) (z : Nat → Int) (p : Nat) (lo hi : Int) (w : World) (h : Rd w R a m c z p) (hp : p < 500000) (h1 : -32768 ≤ lo) (h2 : lo ≤ hi) (h3 : hi ≤ 32767) :
    Calls Try.prog 52 #[.pointer (some ⟨R, 0, none⟩), .agg #[.int .i64 lo, .int .i64 hi]] w (DItv R a m c z p w) := by
  have hR := h.size
  have B0 : Bi w R a m c z p lo hi lo hi (((w.alloc (.cells #[.int .i64 lo, .int .i64 hi] 25)).alloc (.cells #[.int .i64 0, .int .i64 0] 25)).alloc (.cells #[.int .i64 lo, .int .i64 hi] 25)) := by
    have gA := World.grownBy_alloc w (.cells #[.int .i64 lo, .int .i64 hi] 25)
    have gB := World.grownBy_alloc (w.alloc (.cells #[.int .i64 lo, .int .i64 hi] 25)) (.cells #[.int .i64 0, .int .i64 0] 25)
    have gC := World.grownBy_alloc ((w.alloc (.cells #[.int .i64 lo, .int .i64 hi] 25)).alloc (.cells #[.int .i64 0, .int .i64 0] 25)) (.cells #[.int .i64 lo, .int .i64 hi] 25)
    exact ⟨h.kept (grown_trans (gA none) (grown_trans (gB none) (gC none))) (by simp), grown_trans (gA _) (grown_trans (gB _) (gC _)), hR, by simp, by simp [go_sem], by simp [go_sem], ⟨.int .i64 0, by simp [go_sem]⟩, ⟨.int .i64 0, by simp [go_sem]⟩, by simp [go_sem], by simp [go_sem], fun i => by simp [go_sem], fun i => by simp [go_sem]⟩
  go_enter Try.func52, Try.ntmps52
  go_wp2_with fail
  refine (pick R a m c z p 2 _ B0.rd (by omega) (by omega) (by omega)).mono ?_
  rintro e w4 ⟨y4, hy4, hy4', rfl, h4, g4⟩
  have B4 := B0.next h4 g4
  clear B0 h4 g4
  obtain rfl | rfl : y4 = 0 ∨ y4 = 1 := by omega
  · go_wp2_with fail
    have hS0 : SI w R a m c z (p + 1) 4 6 lo hi lo hi true (fun _ => false) w4.drew := ⟨lo, by omega, by omega, by simpa using B4.next (B4.rd.drew) (grown_drew _ _)⟩
    clear B4
    refine region_inv3 [(0, 16), (1, 17), (2, 18), (3, 19), (4, 20), (5, 21), (6, 22), (7, 23), (8, 24), (9, 25), (10, 26)]
      (fun j v _ => match j with
        | 0 => Is (.pointer (some ⟨w.heap.size, 0, none⟩)) v
        | 1 => Is (.int .i64 lo) v
        | 2 => Is (.int .i64 (hi - lo)) v
        | 3 => Is (.pointer (some ⟨R, 0, none⟩)) v
        | 4 => Rng 0 3 v
        | 5 => Is (.pointer (some ⟨R, 0, none⟩)) v
        | 6 => Rng 0 199 v
        | 7 => Rng 0 800 v
        | 8 => Rng 0 (hi - lo) v
        | 9 => Rng lo hi v
        | 10 => Is (.pointer (some ⟨w.heap.size + 1 + 1, 0, none⟩)) v
        | _ => True)
      (SI w R a m c z (p + 1) 4 6 lo hi lo hi true) TT
      (by kernel_rfl) (by kernel_rfl) (by kernel_rfl) (by kernel_rfl) (by kernel_rfl) rfl hS0 (fun i j v W W' _ h _ => h) ?_ ?_
    · intro i L vals W hi' hφ hS hL hd
      have hi2 : i < 12 := hi'
      obtain ⟨v0, hv0, hv0', hB⟩ := hS
      have hS : SI w R a m c z (p + 1) 4 6 lo hi lo hi true L W := ⟨v0, hv0, hv0', hB⟩
      have hRs := hB.rd.size
      rcases (show i = 0 ∨ i = 1 ∨ i = 2 ∨ i = 3 ∨ i = 4 ∨ i = 5 ∨ i = 6 ∨ i = 7 ∨ i = 8 ∨ i = 9 ∨ i = 10 ∨ i = 11 by omega) with rfl | rfl | rfl | rfl | rfl | rfl | rfl | rfl | rfl | rfl | rfl | rfl
      · refine wpAt_of rfl rfl ?_
        simp only [frOf, Act.put]
        go_wp2_with fail
        first | exact ⟨trivial, rfl, trivial, hS.pure (by decide) (by decide)⟩ | exact ⟨rfl, trivial, hS.pure (by decide) (by decide)⟩
      · have k1 : vals 0 = .pointer (some ⟨w.heap.size, 0, none⟩) := hφ 0 (hd 0 (by decide))
        have k2 := hB.a0
        refine wpAt_of rfl rfl ?_
        simp only [frOf, Act.put]
        go_wp2_with fail
        first | exact ⟨trivial, rfl, trivial, hS.pure (by decide) (by decide)⟩ | exact ⟨rfl, trivial, hS.pure (by decide) (by decide)⟩
      · refine wpAt_of rfl rfl ?_
        simp only [frOf, Act.put]
        go_wp2_with fail
        first | exact ⟨trivial, rfl, trivial, hS.pure (by decide) (by decide)⟩ | exact ⟨rfl, trivial, hS.pure (by decide) (by decide)⟩
      · refine wpAt_of rfl rfl ?_
        simp only [frOf, Act.put]
        go_wp2_with fail
        first | exact ⟨trivial, rfl, trivial, hS.pure (by decide) (by decide)⟩ | exact ⟨rfl, trivial, hS.pure (by decide) (by decide)⟩
      · have k1 : vals 3 = .pointer (some ⟨R, 0, none⟩) := hφ 3 (hd 3 (by decide))
        have hb : (p + 1) + (if L 4 then 1 else 0) + (if L 6 then 1 else 0) < 1000000 := by split <;> split <;> omega
        refine wpAt_of rfl rfl ?_
        simp only [frOf, Act.put]
        go_wp2_with fail
        refine (pick R a m c z _ 4 _ hB.rd (by omega) (by omega) hb).mono ?_
        rintro e W' ⟨k, hx1, hx2, rfl, hR', g⟩
        go_wp2_with fail
        first | exact ⟨trivial, ⟨k, hx1, by omega, rfl⟩, trivial, hS.fst (by decide) hL hR' g⟩ | exact ⟨⟨k, hx1, by omega, rfl⟩, trivial, hS.fst (by decide) hL hR' g⟩
      · refine wpAt_of rfl rfl ?_
        simp only [frOf, Act.put]
        go_wp2_with fail
        first | exact ⟨trivial, rfl, trivial, hS.pure (by decide) (by decide)⟩ | exact ⟨rfl, trivial, hS.pure (by decide) (by decide)⟩
      · have k1 : vals 5 = .pointer (some ⟨R, 0, none⟩) := hφ 5 (hd 5 (by decide))
        have hb : (p + 1) + (if L 4 then 1 else 0) + (if L 6 then 1 else 0) < 1000000 := by split <;> split <;> omega
        refine wpAt_of rfl rfl ?_
        simp only [frOf, Act.put]
        go_wp2_with fail
        refine (pick R a m c z _ 200 _ hB.rd (by omega) (by omega) hb).mono ?_
        rintro e W' ⟨k, hx1, hx2, rfl, hR', g⟩
        go_wp2_with fail
        first | exact ⟨trivial, ⟨k, hx1, by omega, rfl⟩, trivial, hS.snd (by decide) hL hR' g⟩ | exact ⟨⟨k, hx1, by omega, rfl⟩, trivial, hS.snd (by decide) hL hR' g⟩
      · obtain ⟨k, q1, q2, k1⟩ : Rng 0 3 (vals 4) := hφ 4 (hd 4 (by decide))
        obtain ⟨l, q3, q4, k2⟩ : Rng 0 199 (vals 6) := hφ 6 (hd 6 (by decide))
        have u1 : 0 ≤ k * l := Int.mul_nonneg q1 q3
        have u2 : k * l ≤ 800 := by
          have := Int.mul_le_mul (show k ≤ 4 by omega) (show l ≤ 200 by omega) q3 (by omega)
          omega
        refine wpAt_of rfl rfl ?_
        simp only [frOf, Act.put]
        go_wp2_with fail
        first | exact ⟨trivial, ⟨k * l, u1, u2, rfl⟩, trivial, hS.pure (by decide) (by decide)⟩ | exact ⟨⟨k * l, u1, u2, rfl⟩, trivial, hS.pure (by decide) (by decide)⟩
      · have k1 : vals 2 = .int .i64 (hi - lo) := hφ 2 (hd 2 (by decide))
        obtain ⟨n, q1, q2, k2⟩ : Rng 0 800 (vals 7) := hφ 7 (hd 7 (by decide))
        by_cases hc : hi - lo < n
        · refine wpAt_of rfl rfl ?_
          simp only [frOf, Act.put]
          go_wp2_with fail
          first | exact ⟨trivial, ⟨hi - lo, by omega, by omega, rfl⟩, trivial, hS.pure (by decide) (by decide)⟩ | exact ⟨⟨hi - lo, by omega, by omega, rfl⟩, trivial, hS.pure (by decide) (by decide)⟩
        · refine wpAt_of rfl rfl ?_
          simp only [frOf, Act.put]
          by_cases he : hi - lo = n
          · subst he
            go_wp2_with fail
            first | exact ⟨trivial, ⟨hi - lo, by omega, by omega, rfl⟩, trivial, hS.pure (by decide) (by decide)⟩ | exact ⟨⟨hi - lo, by omega, by omega, rfl⟩, trivial, hS.pure (by decide) (by decide)⟩
          · have hc' : n < hi - lo := by omega
            go_wp2_with fail
            first | exact ⟨trivial, ⟨n, by omega, by omega, rfl⟩, trivial, hS.pure (by decide) (by decide)⟩ | exact ⟨⟨n, by omega, by omega, rfl⟩, trivial, hS.pure (by decide) (by decide)⟩
      · have k1 : vals 1 = .int .i64 (lo) := hφ 1 (hd 1 (by decide))
        obtain ⟨n, q1, q2, k2⟩ : Rng 0 (hi - lo) (vals 8) := hφ 8 (hd 8 (by decide))
        refine wpAt_of rfl rfl ?_
        simp only [frOf, Act.put]
        go_wp2_with fail
        first | exact ⟨trivial, ⟨lo + n, by omega, by omega, rfl⟩, trivial, hS.pure (by decide) (by decide)⟩ | exact ⟨⟨lo + n, by omega, by omega, rfl⟩, trivial, hS.pure (by decide) (by decide)⟩
      · refine wpAt_of rfl rfl ?_
        simp only [frOf, Act.put]
        go_wp2_with fail
        first | exact ⟨trivial, rfl, trivial, hS.pure (by decide) (by decide)⟩ | exact ⟨rfl, trivial, hS.pure (by decide) (by decide)⟩
      · have k1 : vals 10 = .pointer (some ⟨w.heap.size + 1 + 1, 0, none⟩) := hφ 10 (hd 10 (by decide))
        obtain ⟨n, q1, q2, k2⟩ : Rng lo hi (vals 9) := hφ 9 (hd 9 (by decide))
        have d0 := hB.x0
        have d1 := hB.x1
        have df := hB.fx
        refine wpAt_none rfl rfl ?_
        simp only [frOf, Act.put]
        go_wp2_with fail
        first | exact ⟨trivial, trivial, trivial, SI.put (hS.pure (by decide) (by decide)) q1 q2⟩ | exact ⟨trivial, trivial, SI.put (hS.pure (by decide) (by decide)) q1 q2⟩ | exact ⟨trivial, SI.put (hS.pure (by decide) (by decide)) q1 q2⟩
    · intro L vals W hall hφ hS
      have l1 : L 4 = true := hall 4 (by decide)
      have l2 : L 6 = true := hall 6 (by decide)
      obtain ⟨v0, hv0, hv0', hB⟩ := hS
      rw [l1, l2] at hB
      simp only [if_true] at hB
      simp only [frOf, Act.put]
      go_wp2_with fail
      refine (pick R a m c z _ 2 _ hB.rd (by omega) (by omega) (by omega)).mono ?_
      rintro e w5 ⟨y5, hy5, hy5', rfl, h5, g5⟩
      have B5 := hB.next h5 g5
      clear hB h5 g5
      obtain rfl | rfl : y5 = 0 ∨ y5 = 1 := by omega
      · go_wp2_with fail
        have hS0 : SI w R a m c z (p + 1 + 1 + 1 + 1) 6 8 lo hi v0 hi false (fun _ => false) w5.drew := ⟨hi, by omega, by omega, by simpa using B5.next (B5.rd.drew) (grown_drew _ _)⟩
        clear B5
        refine region_inv3 [(0, 30), (1, 31), (2, 32), (3, 33), (4, 34), (5, 35), (6, 36), (7, 37), (8, 38), (9, 39), (10, 40), (11, 41), (12, 42), (13, 43)]
          (fun j v _ => match j with
            | 0 => Is (.pointer (some ⟨w.heap.size + 1 + 1, 0, none⟩)) v
            | 1 => Is (.int .i64 v0) v
            | 2 => Is (.pointer (some ⟨w.heap.size, 1, none⟩)) v
            | 3 => Is (.int .i64 hi) v
            | 4 => Is (.int .i64 (hi - lo)) v
            | 5 => Is (.pointer (some ⟨R, 0, none⟩)) v
            | 6 => Rng 0 3 v
            | 7 => Is (.pointer (some ⟨R, 0, none⟩)) v
            | 8 => Rng 0 199 v
            | 9 => Rng 0 800 v
            | 10 => Rng 0 (hi - lo) v
            | 11 => Rng lo hi v
            | 12 => Rng lo hi v
            | 13 => Is (.pointer (some ⟨w.heap.size + 1 + 1, 1, none⟩)) v
            | _ => True)
          (SI w R a m c z (p + 1 + 1 + 1 + 1) 6 8 lo hi v0 hi false) TT
          (by kernel_rfl) (by kernel_rfl) (by kernel_rfl) (by kernel_rfl) (by kernel_rfl) rfl hS0 (fun i j v W W' _ h _ => h) ?_ ?_
        · intro i L vals W hi' hφ hS hL hd
          have hi2 : i < 15 := hi'
          obtain ⟨v9, hv9, hv9', hB⟩ := hS
          have hS : SI w R a m c z (p + 1 + 1 + 1 + 1) 6 8 lo hi v0 hi false L W := ⟨v9, hv9, hv9', hB⟩
          have hRs := hB.rd.size
          rcases (show i = 0 ∨ i = 1 ∨ i = 2 ∨ i = 3 ∨ i = 4 ∨ i = 5 ∨ i = 6 ∨ i = 7 ∨ i = 8 ∨ i = 9 ∨ i = 10 ∨ i = 11 ∨ i = 12 ∨ i = 13 ∨ i = 14 by omega) with rfl | rfl | rfl | rfl | rfl | rfl | rfl | rfl | rfl | rfl | rfl | rfl | rfl | rfl | rfl
          · refine wpAt_of rfl rfl ?_
            simp only [frOf, Act.put]
            go_wp2_with fail
            first | exact ⟨trivial, rfl, trivial, hS.pure (by decide) (by decide)⟩ | exact ⟨rfl, trivial, hS.pure (by decide) (by decide)⟩
          · have k1 : vals 0 = .pointer (some ⟨w.heap.size + 1 + 1, 0, none⟩) := hφ 0 (hd 0 (by decide))
            have k2 := hB.x0
            refine wpAt_of rfl rfl ?_
            simp only [frOf, Act.put]
            go_wp2_with fail
            first | exact ⟨trivial, rfl, trivial, hS.pure (by decide) (by decide)⟩ | exact ⟨rfl, trivial, hS.pure (by decide) (by decide)⟩
          · refine wpAt_of rfl rfl ?_
            simp only [frOf, Act.put]
            go_wp2_with fail
            first | exact ⟨trivial, rfl, trivial, hS.pure (by decide) (by decide)⟩ | exact ⟨rfl, trivial, hS.pure (by decide) (by decide)⟩
          · have k1 : vals 2 = .pointer (some ⟨w.heap.size, 1, none⟩) := hφ 2 (hd 2 (by decide))
            have k2 := hB.a1
            refine wpAt_of rfl rfl ?_
            simp only [frOf, Act.put]
            go_wp2_with fail
            first | exact ⟨trivial, rfl, trivial, hS.pure (by decide) (by decide)⟩ | exact ⟨rfl, trivial, hS.pure (by decide) (by decide)⟩
          · refine wpAt_of rfl rfl ?_
            simp only [frOf, Act.put]
            go_wp2_with fail
            first | exact ⟨trivial, rfl, trivial, hS.pure (by decide) (by decide)⟩ | exact ⟨rfl, trivial, hS.pure (by decide) (by decide)⟩
          · refine wpAt_of rfl rfl ?_
            simp only [frOf, Act.put]
            go_wp2_with fail
            first | exact ⟨trivial, rfl, trivial, hS.pure (by decide) (by decide)⟩ | exact ⟨rfl, trivial, hS.pure (by decide) (by decide)⟩
          · have k1 : vals 5 = .pointer (some ⟨R, 0, none⟩) := hφ 5 (hd 5 (by decide))
            have hb : (p + 1 + 1 + 1 + 1) + (if L 6 then 1 else 0) + (if L 8 then 1 else 0) < 1000000 := by split <;> split <;> omega
            refine wpAt_of rfl rfl ?_
            simp only [frOf, Act.put]
            go_wp2_with fail
            refine (pick R a m c z _ 4 _ hB.rd (by omega) (by omega) hb).mono ?_
            rintro e W' ⟨k, hx1, hx2, rfl, hR', g⟩
            go_wp2_with fail
            first | exact ⟨trivial, ⟨k, hx1, by omega, rfl⟩, trivial, hS.fst (by decide) hL hR' g⟩ | exact ⟨⟨k, hx1, by omega, rfl⟩, trivial, hS.fst (by decide) hL hR' g⟩
          · refine wpAt_of rfl rfl ?_
            simp only [frOf, Act.put]
            go_wp2_with fail
            first | exact ⟨trivial, rfl, trivial, hS.pure (by decide) (by decide)⟩ | exact ⟨rfl, trivial, hS.pure (by decide) (by decide)⟩
          · have k1 : vals 7 = .pointer (some ⟨R, 0, none⟩) := hφ 7 (hd 7 (by decide))
            have hb : (p + 1 + 1 + 1 + 1) + (if L 6 then 1 else 0) + (if L 8 then 1 else 0) < 1000000 := by split <;> split <;> omega
            refine wpAt_of rfl rfl ?_
            simp only [frOf, Act.put]
            go_wp2_with fail
            refine (pick R a m c z _ 200 _ hB.rd (by omega) (by omega) hb).mono ?_
            rintro e W' ⟨k, hx1, hx2, rfl, hR', g⟩
            go_wp2_with fail
            first | exact ⟨trivial, ⟨k, hx1, by omega, rfl⟩, trivial, hS.snd (by decide) hL hR' g⟩ | exact ⟨⟨k, hx1, by omega, rfl⟩, trivial, hS.snd (by decide) hL hR' g⟩
          · obtain ⟨k, q1, q2, k1⟩ : Rng 0 3 (vals 6) := hφ 6 (hd 6 (by decide))
            obtain ⟨l, q3, q4, k2⟩ : Rng 0 199 (vals 8) := hφ 8 (hd 8 (by decide))
            have u1 : 0 ≤ k * l := Int.mul_nonneg q1 q3
            have u2 : k * l ≤ 800 := by
              have := Int.mul_le_mul (show k ≤ 4 by omega) (show l ≤ 200 by omega) q3 (by omega)
              omega
            refine wpAt_of rfl rfl ?_
            simp only [frOf, Act.put]
            go_wp2_with fail
            first | exact ⟨trivial, ⟨k * l, u1, u2, rfl⟩, trivial, hS.pure (by decide) (by decide)⟩ | exact ⟨⟨k * l, u1, u2, rfl⟩, trivial, hS.pure (by decide) (by decide)⟩
          · have k1 : vals 4 = .int .i64 (hi - lo) := hφ 4 (hd 4 (by decide))
            obtain ⟨n, q1, q2, k2⟩ : Rng 0 800 (vals 9) := hφ 9 (hd 9 (by decide))
            by_cases hc : hi - lo < n
            · refine wpAt_of rfl rfl ?_
              simp only [frOf, Act.put]
              go_wp2_with fail
              first | exact ⟨trivial, ⟨hi - lo, by omega, by omega, rfl⟩, trivial, hS.pure (by decide) (by decide)⟩ | exact ⟨⟨hi - lo, by omega, by omega, rfl⟩, trivial, hS.pure (by decide) (by decide)⟩
            · refine wpAt_of rfl rfl ?_
              simp only [frOf, Act.put]
              by_cases he : hi - lo = n
              · subst he
                go_wp2_with fail
                first | exact ⟨trivial, ⟨hi - lo, by omega, by omega, rfl⟩, trivial, hS.pure (by decide) (by decide)⟩ | exact ⟨⟨hi - lo, by omega, by omega, rfl⟩, trivial, hS.pure (by decide) (by decide)⟩
              · have hc' : n < hi - lo := by omega
                go_wp2_with fail
                first | exact ⟨trivial, ⟨n, by omega, by omega, rfl⟩, trivial, hS.pure (by decide) (by decide)⟩ | exact ⟨⟨n, by omega, by omega, rfl⟩, trivial, hS.pure (by decide) (by decide)⟩
          · have k1 : vals 3 = .int .i64 (hi) := hφ 3 (hd 3 (by decide))
            obtain ⟨n, q1, q2, k2⟩ : Rng 0 (hi - lo) (vals 10) := hφ 10 (hd 10 (by decide))
            refine wpAt_of rfl rfl ?_
            simp only [frOf, Act.put]
            go_wp2_with fail
            first | exact ⟨trivial, ⟨hi - n, by omega, by omega, rfl⟩, trivial, hS.pure (by decide) (by decide)⟩ | exact ⟨⟨hi - n, by omega, by omega, rfl⟩, trivial, hS.pure (by decide) (by decide)⟩
          · have k1 : vals 1 = .int .i64 v0 := hφ 1 (hd 1 (by decide))
            obtain ⟨n, q1, q2, k2⟩ : Rng lo hi (vals 11) := hφ 11 (hd 11 (by decide))
            refine wpAt_of rfl rfl ?_
            simp only [frOf, Act.put]
            by_cases hc : v0 < n
            · go_wp2_with fail
              first | exact ⟨trivial, ⟨n, by omega, by omega, rfl⟩, trivial, hS.pure (by decide) (by decide)⟩ | exact ⟨⟨n, by omega, by omega, rfl⟩, trivial, hS.pure (by decide) (by decide)⟩
            · by_cases he : v0 = n
              · subst he
                go_wp2_with fail
                first | exact ⟨trivial, ⟨v0, by omega, by omega, rfl⟩, trivial, hS.pure (by decide) (by decide)⟩ | exact ⟨⟨v0, by omega, by omega, rfl⟩, trivial, hS.pure (by decide) (by decide)⟩
              · have hc' : n < v0 := by omega
                go_wp2_with fail
                first | exact ⟨trivial, ⟨v0, by omega, by omega, rfl⟩, trivial, hS.pure (by decide) (by decide)⟩ | exact ⟨⟨v0, by omega, by omega, rfl⟩, trivial, hS.pure (by decide) (by decide)⟩
          · refine wpAt_of rfl rfl ?_
            simp only [frOf, Act.put]
            go_wp2_with fail
            first | exact ⟨trivial, rfl, trivial, hS.pure (by decide) (by decide)⟩ | exact ⟨rfl, trivial, hS.pure (by decide) (by decide)⟩
          · have k1 : vals 13 = .pointer (some ⟨w.heap.size + 1 + 1, 1, none⟩) := hφ 13 (hd 13 (by decide))
            obtain ⟨n, q1, q2, k2⟩ : Rng lo hi (vals 12) := hφ 12 (hd 12 (by decide))
            have d0 := hB.x0
            have d1 := hB.x1
            have df := hB.fx
            refine wpAt_none rfl rfl ?_
            simp only [frOf, Act.put]
            go_wp2_with fail
            first | exact ⟨trivial, trivial, trivial, SI.put (hS.pure (by decide) (by decide)) q1 q2⟩ | exact ⟨trivial, trivial, SI.put (hS.pure (by decide) (by decide)) q1 q2⟩ | exact ⟨trivial, SI.put (hS.pure (by decide) (by decide)) q1 q2⟩
        · intro L vals W hall hφ hS
          have l1 : L 6 = true := hall 6 (by decide)
          have l2 : L 8 = true := hall 8 (by decide)
          obtain ⟨v9, hv9, hv9', hB⟩ := hS
          rw [l1, l2] at hB
          simp only [if_true, Bool.false_eq_true, if_false] at hB
          simp only [frOf, Act.put]
          obtain ⟨u0, k0⟩ := hB.b0
          obtain ⟨u1, k1⟩ := hB.b1
          have kf := hB.fb
          have d0 := hB.x0
          have d1 := hB.x1
          obtain ⟨e0, e1⟩ := own2 k0 k1
          go_wp2_with fail
          refine bodyPost_ret (v := .agg #[.int .i64 v0, .int .i64 v9]) (by simp [results, Try.results52, go_sem, e0, e1]) rfl (hB.done ⟨by omega, by omega⟩ ⟨by omega, by omega⟩ (by omega))
      · obtain ⟨u0, k0⟩ := B5.b0
        obtain ⟨u1, k1⟩ := B5.b1
        have kf := B5.fb
        have d0 := B5.x0
        have d1 := B5.x1
        obtain ⟨e0, e1⟩ := own2 k0 k1
        go_wp2_with fail
        refine bodyPost_ret (v := .agg #[.int .i64 v0, .int .i64 hi]) (by simp [results, Try.results52, go_sem, e0, e1]) rfl (B5.done ⟨by omega, by omega⟩ ⟨by omega, by omega⟩ (by omega))
  · go_wp2_with fail
    refine (pick R a m c z _ 2 _ B4.rd (by omega) (by omega) (by omega)).mono ?_
    rintro e w5 ⟨y5, hy5, hy5', rfl, h5, g5⟩
    have B5 := B4.next h5 g5
    clear B4 h5 g5
    obtain rfl | rfl : y5 = 0 ∨ y5 = 1 := by omega
    · go_wp2_with fail
      have hS0 : SI w R a m c z (p + 1 + 1) 6 8 lo hi lo hi false (fun _ => false) w5.drew := ⟨hi, by omega, by omega, by simpa using B5.next (B5.rd.drew) (grown_drew _ _)⟩
      clear B5
      refine region_inv3 [(0, 30), (1, 31), (2, 32), (3, 33), (4, 34), (5, 35), (6, 36), (7, 37), (8, 38), (9, 39), (10, 40), (11, 41), (12, 42), (13, 43)]
        (fun j v _ => match j with
          | 0 => Is (.pointer (some ⟨w.heap.size + 1 + 1, 0, none⟩)) v
          | 1 => Is (.int .i64 lo) v
          | 2 => Is (.pointer (some ⟨w.heap.size, 1, none⟩)) v
          | 3 => Is (.int .i64 hi) v
          | 4 => Is (.int .i64 (hi - lo)) v
          | 5 => Is (.pointer (some ⟨R, 0, none⟩)) v
          | 6 => Rng 0 3 v
          | 7 => Is (.pointer (some ⟨R, 0, none⟩)) v
          | 8 => Rng 0 199 v
          | 9 => Rng 0 800 v
          | 10 => Rng 0 (hi - lo) v
          | 11 => Rng lo hi v
          | 12 => Rng lo hi v
          | 13 => Is (.pointer (some ⟨w.heap.size + 1 + 1, 1, none⟩)) v
          | _ => True)
        (SI w R a m c z (p + 1 + 1) 6 8 lo hi lo hi false) TT
        (by kernel_rfl) (by kernel_rfl) (by kernel_rfl) (by kernel_rfl) (by kernel_rfl) rfl hS0 (fun i j v W W' _ h _ => h) ?_ ?_
      · intro i L vals W hi' hφ hS hL hd
        have hi2 : i < 15 := hi'
        obtain ⟨v9, hv9, hv9', hB⟩ := hS
        have hS : SI w R a m c z (p + 1 + 1) 6 8 lo hi lo hi false L W := ⟨v9, hv9, hv9', hB⟩
        have hRs := hB.rd.size
        rcases (show i = 0 ∨ i = 1 ∨ i = 2 ∨ i = 3 ∨ i = 4 ∨ i = 5 ∨ i = 6 ∨ i = 7 ∨ i = 8 ∨ i = 9 ∨ i = 10 ∨ i = 11 ∨ i = 12 ∨ i = 13 ∨ i = 14 by omega) with rfl | rfl | rfl | rfl | rfl | rfl | rfl | rfl | rfl | rfl | rfl | rfl | rfl | rfl | rfl
        · refine wpAt_of rfl rfl ?_
          simp only [frOf, Act.put]
          go_wp2_with fail
          first | exact ⟨trivial, rfl, trivial, hS.pure (by decide) (by decide)⟩ | exact ⟨rfl, trivial, hS.pure (by decide) (by decide)⟩
        · have k1 : vals 0 = .pointer (some ⟨w.heap.size + 1 + 1, 0, none⟩) := hφ 0 (hd 0 (by decide))
          have k2 := hB.x0
          refine wpAt_of rfl rfl ?_
          simp only [frOf, Act.put]
          go_wp2_with fail
          first | exact ⟨trivial, rfl, trivial, hS.pure (by decide) (by decide)⟩ | exact ⟨rfl, trivial, hS.pure (by decide) (by decide)⟩
        · refine wpAt_of rfl rfl ?_
          simp only [frOf, Act.put]
          go_wp2_with fail
          first | exact ⟨trivial, rfl, trivial, hS.pure (by decide) (by decide)⟩ | exact ⟨rfl, trivial, hS.pure (by decide) (by decide)⟩
        · have k1 : vals 2 = .pointer (some ⟨w.heap.size, 1, none⟩) := hφ 2 (hd 2 (by decide))
          have k2 := hB.a1
          refine wpAt_of rfl rfl ?_
          simp only [frOf, Act.put]
          go_wp2_with fail
          first | exact ⟨trivial, rfl, trivial, hS.pure (by decide) (by decide)⟩ | exact ⟨rfl, trivial, hS.pure (by decide) (by decide)⟩
        · refine wpAt_of rfl rfl ?_
          simp only [frOf, Act.put]
          go_wp2_with fail
          first | exact ⟨trivial, rfl, trivial, hS.pure (by decide) (by decide)⟩ | exact ⟨rfl, trivial, hS.pure (by decide) (by decide)⟩
        · refine wpAt_of rfl rfl ?_
          simp only [frOf, Act.put]
          go_wp2_with fail
          first | exact ⟨trivial, rfl, trivial, hS.pure (by decide) (by decide)⟩ | exact ⟨rfl, trivial, hS.pure (by decide) (by decide)⟩
        · have k1 : vals 5 = .pointer (some ⟨R, 0, none⟩) := hφ 5 (hd 5 (by decide))
          have hb : (p + 1 + 1) + (if L 6 then 1 else 0) + (if L 8 then 1 else 0) < 1000000 := by split <;> split <;> omega
          refine wpAt_of rfl rfl ?_
          simp only [frOf, Act.put]
          go_wp2_with fail
          refine (pick R a m c z _ 4 _ hB.rd (by omega) (by omega) hb).mono ?_
          rintro e W' ⟨k, hx1, hx2, rfl, hR', g⟩
          go_wp2_with fail
          first | exact ⟨trivial, ⟨k, hx1, by omega, rfl⟩, trivial, hS.fst (by decide) hL hR' g⟩ | exact ⟨⟨k, hx1, by omega, rfl⟩, trivial, hS.fst (by decide) hL hR' g⟩
        · refine wpAt_of rfl rfl ?_
          simp only [frOf, Act.put]
          go_wp2_with fail
          first | exact ⟨trivial, rfl, trivial, hS.pure (by decide) (by decide)⟩ | exact ⟨rfl, trivial, hS.pure (by decide) (by decide)⟩
        · have k1 : vals 7 = .pointer (some ⟨R, 0, none⟩) := hφ 7 (hd 7 (by decide))
          have hb : (p + 1 + 1) + (if L 6 then 1 else 0) + (if L 8 then 1 else 0) < 1000000 := by split <;> split <;> omega
          refine wpAt_of rfl rfl ?_
          simp only [frOf, Act.put]
          go_wp2_with fail
          refine (pick R a m c z _ 200 _ hB.rd (by omega) (by omega) hb).mono ?_
          rintro e W' ⟨k, hx1, hx2, rfl, hR', g⟩
          go_wp2_with fail
          first | exact ⟨trivial, ⟨k, hx1, by omega, rfl⟩, trivial, hS.snd (by decide) hL hR' g⟩ | exact ⟨⟨k, hx1, by omega, rfl⟩, trivial, hS.snd (by decide) hL hR' g⟩
        · obtain ⟨k, q1, q2, k1⟩ : Rng 0 3 (vals 6) := hφ 6 (hd 6 (by decide))
          obtain ⟨l, q3, q4, k2⟩ : Rng 0 199 (vals 8) := hφ 8 (hd 8 (by decide))
          have u1 : 0 ≤ k * l := Int.mul_nonneg q1 q3
          have u2 : k * l ≤ 800 := by
            have := Int.mul_le_mul (show k ≤ 4 by omega) (show l ≤ 200 by omega) q3 (by omega)
            omega
          refine wpAt_of rfl rfl ?_
          simp only [frOf, Act.put]
          go_wp2_with fail
          first | exact ⟨trivial, ⟨k * l, u1, u2, rfl⟩, trivial, hS.pure (by decide) (by decide)⟩ | exact ⟨⟨k * l, u1, u2, rfl⟩, trivial, hS.pure (by decide) (by decide)⟩
        · have k1 : vals 4 = .int .i64 (hi - lo) := hφ 4 (hd 4 (by decide))
          obtain ⟨n, q1, q2, k2⟩ : Rng 0 800 (vals 9) := hφ 9 (hd 9 (by decide))
          by_cases hc : hi - lo < n
          · refine wpAt_of rfl rfl ?_
            simp only [frOf, Act.put]
            go_wp2_with fail
            first | exact ⟨trivial, ⟨hi - lo, by omega, by omega, rfl⟩, trivial, hS.pure (by decide) (by decide)⟩ | exact ⟨⟨hi - lo, by omega, by omega, rfl⟩, trivial, hS.pure (by decide) (by decide)⟩
          · refine wpAt_of rfl rfl ?_
            simp only [frOf, Act.put]
            by_cases he : hi - lo = n
            · subst he
              go_wp2_with fail
              first | exact ⟨trivial, ⟨hi - lo, by omega, by omega, rfl⟩, trivial, hS.pure (by decide) (by decide)⟩ | exact ⟨⟨hi - lo, by omega, by omega, rfl⟩, trivial, hS.pure (by decide) (by decide)⟩
            · have hc' : n < hi - lo := by omega
              go_wp2_with fail
              first | exact ⟨trivial, ⟨n, by omega, by omega, rfl⟩, trivial, hS.pure (by decide) (by decide)⟩ | exact ⟨⟨n, by omega, by omega, rfl⟩, trivial, hS.pure (by decide) (by decide)⟩
        · have k1 : vals 3 = .int .i64 (hi) := hφ 3 (hd 3 (by decide))
          obtain ⟨n, q1, q2, k2⟩ : Rng 0 (hi - lo) (vals 10) := hφ 10 (hd 10 (by decide))
          refine wpAt_of rfl rfl ?_
          simp only [frOf, Act.put]
          go_wp2_with fail
          first | exact ⟨trivial, ⟨hi - n, by omega, by omega, rfl⟩, trivial, hS.pure (by decide) (by decide)⟩ | exact ⟨⟨hi - n, by omega, by omega, rfl⟩, trivial, hS.pure (by decide) (by decide)⟩
        · have k1 : vals 1 = .int .i64 lo := hφ 1 (hd 1 (by decide))
          obtain ⟨n, q1, q2, k2⟩ : Rng lo hi (vals 11) := hφ 11 (hd 11 (by decide))
          refine wpAt_of rfl rfl ?_
          simp only [frOf, Act.put]
          by_cases hc : lo < n
          · go_wp2_with fail
            first | exact ⟨trivial, ⟨n, by omega, by omega, rfl⟩, trivial, hS.pure (by decide) (by decide)⟩ | exact ⟨⟨n, by omega, by omega, rfl⟩, trivial, hS.pure (by decide) (by decide)⟩
          · by_cases he : lo = n
            · subst he
              go_wp2_with fail
              first | exact ⟨trivial, ⟨lo, by omega, by omega, rfl⟩, trivial, hS.pure (by decide) (by decide)⟩ | exact ⟨⟨lo, by omega, by omega, rfl⟩, trivial, hS.pure (by decide) (by decide)⟩
            · have hc' : n < lo := by omega
              go_wp2_with fail
              first | exact ⟨trivial, ⟨lo, by omega, by omega, rfl⟩, trivial, hS.pure (by decide) (by decide)⟩ | exact ⟨⟨lo, by omega, by omega, rfl⟩, trivial, hS.pure (by decide) (by decide)⟩
        · refine wpAt_of rfl rfl ?_
          simp only [frOf, Act.put]
          go_wp2_with fail
          first | exact ⟨trivial, rfl, trivial, hS.pure (by decide) (by decide)⟩ | exact ⟨rfl, trivial, hS.pure (by decide) (by decide)⟩
        · have k1 : vals 13 = .pointer (some ⟨w.heap.size + 1 + 1, 1, none⟩) := hφ 13 (hd 13 (by decide))
          obtain ⟨n, q1, q2, k2⟩ : Rng lo hi (vals 12) := hφ 12 (hd 12 (by decide))
          have d0 := hB.x0
          have d1 := hB.x1
          have df := hB.fx
          refine wpAt_none rfl rfl ?_
          simp only [frOf, Act.put]
          go_wp2_with fail
          first | exact ⟨trivial, trivial, trivial, SI.put (hS.pure (by decide) (by decide)) q1 q2⟩ | exact ⟨trivial, trivial, SI.put (hS.pure (by decide) (by decide)) q1 q2⟩ | exact ⟨trivial, SI.put (hS.pure (by decide) (by decide)) q1 q2⟩
      · intro L vals W hall hφ hS
        have l1 : L 6 = true := hall 6 (by decide)
        have l2 : L 8 = true := hall 8 (by decide)
        obtain ⟨v9, hv9, hv9', hB⟩ := hS
        rw [l1, l2] at hB
        simp only [if_true, Bool.false_eq_true, if_false] at hB
        simp only [frOf, Act.put]
        obtain ⟨u0, k0⟩ := hB.b0
        obtain ⟨u1, k1⟩ := hB.b1
        have kf := hB.fb
        have d0 := hB.x0
        have d1 := hB.x1
        obtain ⟨e0, e1⟩ := own2 k0 k1
        go_wp2_with fail
        refine bodyPost_ret (v := .agg #[.int .i64 lo, .int .i64 v9]) (by simp [results, Try.results52, go_sem, e0, e1]) rfl (hB.done ⟨by omega, by omega⟩ ⟨by omega, by omega⟩ (by omega))
    · obtain ⟨u0, k0⟩ := B5.b0
      obtain ⟨u1, k1⟩ := B5.b1
      have kf := B5.fb
      have d0 := B5.x0
      have d1 := B5.x1
      obtain ⟨e0, e1⟩ := own2 k0 k1
      go_wp2_with fail
      refine bodyPost_ret (v := .agg #[.int .i64 lo, .int .i64 hi]) (by simp [results, Try.results52, go_sem, e0, e1]) rfl (B5.done ⟨by omega, by omega⟩ ⟨by omega, by omega⟩ (by omega))
end Go.Proofs.Ytiehokibfdaleaa
