/- What the drawing of two bounds answers: some four ints; it makes memory of its own alone. -/
import Derived.Test.YtbnpbjkdigmphabDrawIn
import Derived.Test.YtbnpbjkdigmphabPlainItv
namespace Go.Proofs.Ytbnpbjkdigmphab
open Go.ChangeShapes Go.WideShapes Go.ChangeAt Go.RowKit

def DTwo (w : World) (e : Ending) (w' : World) : Prop := ∃ x0 x1 y0 y1 : Int, I64 x0 ∧ I64 x1 ∧ I64 y0 ∧ I64 y1 ∧ e = .returned (.tuple #[.agg #[.int .i64 x0, .int .i64 x1], .agg #[.int .i64 y0, .int .i64 y1]]) ∧ Below w.heap.size w w'
theorem box_set {B C i : Nat} {W : World} {v : Value} (h : BoxIn B W) : BoxIn B (W.setCell ⟨C, i, none⟩ v) := by
  obtain ⟨h0, ⟨u, hu⟩, ⟨u', hu'⟩, hf⟩ := h
  have key : ∀ o u, W.cell? ⟨B, o, none⟩ = some u → ∃ u', (W.setCell ⟨C, i, none⟩ v).cell? ⟨B, o, none⟩ = some u' := by
    intro o u hu
    by_cases he : (⟨C, i, none⟩ : Addr) = ⟨B, o, none⟩
    · rw [he]; exact ⟨v, World.cell?_setCell_same _ _ _ hu⟩
    · exact ⟨u, (World.cell?_setCell_other _ _ _ _ he).trans hu⟩
  exact ⟨by simpa [World.setCell] using h0, key 0 u hu, key 1 u' hu', fun j => by rw [World.frozen?_setCell]; exact hf j⟩
theorem two_other {B C i : Nat} {W : World} {v : Value} (h : TwoIn B W) (hne : B ≠ C) : TwoIn B (W.setCell ⟨C, i, none⟩ v) := by
  obtain ⟨h0, x, y, h1, h2, h3⟩ := h
  have o : ∀ j, (W.setCell ⟨C, i, none⟩ v).cell? ⟨B, j, none⟩ = W.cell? ⟨B, j, none⟩ := fun j => World.cell?_setCell_other _ _ _ _ (fun e => hne (by injection e with e; exact e.symm))
  exact ⟨by simpa [World.setCell] using h0, x, y, (o 0).trans h1, (o 1).trans h2, h3⟩
/-- What DrawItvIn holds: the two answers' blocks, the first bounds' block. -/
structure Bw (w : World) (R X : Nat) (x y : Int) (W : World) : Prop where
  below : Below w.heap.size w W
  r : R = w.heap.size + 1 + 1
  rx : R < X
  lt : X < W.heap.size
  p0 : BoxIn w.heap.size W
  p1 : BoxIn (w.heap.size + 1) W
  c0 : W.cell? ⟨X, 0, none⟩ = some (.int .i64 x)
  c1 : W.cell? ⟨X, 1, none⟩ = some (.int .i64 y)
theorem Bw.next {w : World} {R X : Nat} {x y : Int} {W W' : World} (h : Bw w R X x y W) (g : W.grownBy W' (some R)) : Bw w R X x y W' := by
  have r := h.r
  have hx := h.rx
  obtain ⟨hc, _⟩ := gcell g
  exact ⟨below_at h.below g (by omega), r, hx, Nat.lt_of_lt_of_le h.lt g.size, h.p0.next (R := R) (by omega) g, h.p1.next (R := R) (by omega) g, (hc X 0 h.lt (by omega)).trans h.c0, (hc X 1 h.lt (by omega)).trans h.c1⟩
theorem grown_below {W W' : World} (b : Below W.heap.size W W') (row : Option Nat) : W.grownBy W' row := ⟨b.os, b.tape, b.output, b.size, fun k hk _ => b.block k hk⟩
theorem Bw.put {w : World} {R X : Nat} {x y : Int} {W : World} (h : Bw w R X x y W) {B i : Nat} (hB : w.heap.size ≤ B) (hB' : B < R) (v : Value) : Bw w R X x y (W.setCell ⟨B, i, none⟩ v) := by
  have r := h.r
  have hx := h.rx
  have o : ∀ j, (W.setCell ⟨B, i, none⟩ v).cell? ⟨X, j, none⟩ = W.cell? ⟨X, j, none⟩ := fun j => World.cell?_setCell_other _ _ _ _ (fun e => by injection e with e; omega)
  exact ⟨h.below.setCell hB v, r, hx, by simpa [World.setCell] using h.lt, box_set h.p0, box_set h.p1, (o 0).trans h.c0, (o 1).trans h.c1⟩
/-- What its last regions hold, by what is done: c the call that draws, s and t the two answers' stores. -/
def SW (w : World) (R X : Nat) (a : Option Addr) (m c : Nat) (z : Nat → Int) (q : Nat) (x y : Int) (k s t : Nat) (L : Nat → Bool) (W : World) : Prop :=
  Bw w R X x y W ∧ (L k = false → Rd W R a m c z q) ∧ (L s = true → TwoIn w.heap.size W) ∧ (L t = true → TwoIn (w.heap.size + 1) W) ∧ (L s = true → L k = true) ∧ (L t = true → L s = true)
theorem SW.pure {w : World} {R X : Nat} {a : Option Addr} {m c : Nat} {z : Nat → Int} {q : Nat} {x y : Int} {k s t : Nat} {L : Nat → Bool} {W : World} (h : SW w R X a m c z q x y k s t L W) {i : Nat} (h1 : k ≠ i) (h2 : s ≠ i) (h3 : t ≠ i) : SW w R X a m c z q x y k s t (upd L i true) W := by
  unfold SW at *
  rw [upd_other _ _ h1, upd_other _ _ h2, upd_other _ _ h3]
  exact h
theorem SW.call {w : World} {R X : Nat} {a : Option Addr} {m c : Nat} {z : Nat → Int} {q : Nat} {x y : Int} {k s t : Nat} {L : Nat → Bool} {W W' : World} (h : SW w R X a m c z q x y k s t L W) (hL : L k = false) (h2 : s ≠ k) (h3 : t ≠ k) (g : W.grownBy W' (some R)) : SW w R X a m c z q x y k s t (upd L k true) W' := by
  obtain ⟨hB, hr, h4, h5, h6, h7⟩ := h
  have n1 : L s = false := by
    cases hs : L s with
    | false => rfl
    | true => have := h6 hs; rw [hL] at this; cases this
  have n2 : L t = false := by
    cases hs : L t with
    | false => rfl
    | true => have := h7 hs; rw [n1] at this; cases this
  unfold SW
  rw [upd_same, upd_other _ _ h2, upd_other _ _ h3, n1, n2]
  exact ⟨hB.next g, by simp, by simp, by simp, by simp, by simp⟩
theorem SW.fst {w : World} {R X : Nat} {a : Option Addr} {m c : Nat} {z : Nat → Int} {q : Nat} {x y : Int} {k s t : Nat} {L : Nat → Bool} {W : World} (h : SW w R X a m c z q x y k s t L W) (hL : L s = false) (hk : L k = true) (h1 : k ≠ s) (h3 : t ≠ s) {u v : Int} (hu : I64 u) (hv : I64 v) : SW w R X a m c z q x y k s t (upd L s true) ((W.setCell ⟨w.heap.size, 0, none⟩ (.int .i64 u)).setCell ⟨w.heap.size, 1, none⟩ (.int .i64 v)) := by
  obtain ⟨hB, hr, h4, h5, h6, h7⟩ := h
  have n2 : L t = false := by
    cases hs : L t with
    | false => rfl
    | true => have := h7 hs; rw [hL] at this; cases this
  have r := hB.r
  unfold SW
  rw [upd_same, upd_other _ _ h1, upd_other _ _ h3, n2, hk]
  exact ⟨(hB.put (Nat.le_refl _) (by omega) _).put (Nat.le_refl _) (by omega) _, by simp, fun _ => two_set hB.p0 hu hv, by simp, by simp, by simp⟩
theorem SW.snd {w : World} {R X : Nat} {a : Option Addr} {m c : Nat} {z : Nat → Int} {q : Nat} {x y : Int} {k s t : Nat} {L : Nat → Bool} {W : World} (h : SW w R X a m c z q x y k s t L W) (hs : L s = true) (h1 : k ≠ t) (h3 : s ≠ t) {u v : Int} (hu : I64 u) (hv : I64 v) : SW w R X a m c z q x y k s t (upd L t true) ((W.setCell ⟨w.heap.size + 1, 0, none⟩ (.int .i64 u)).setCell ⟨w.heap.size + 1, 1, none⟩ (.int .i64 v)) := by
  obtain ⟨hB, hr, h4, h5, h6, h7⟩ := h
  have r := hB.r
  have hk := h6 hs
  unfold SW
  rw [upd_same, upd_other _ _ h1, upd_other _ _ h3, hs, hk]
  exact ⟨(hB.put (by omega) (by omega) _).put (by omega) (by omega) _, by simp, fun _ => two_other (two_other (h4 hs) (by omega)) (by omega), fun _ => two_set hB.p1 hu hv, by simp, by simp⟩
/-- Some two ints. -/
def Ag (v : Value) : Prop := ∃ u0 u1 : Int, v = .agg #[.int .i64 u0, .int .i64 u1] ∧ I64 u0 ∧ I64 u1

set_option maxRecDepth 10000 in
set_option maxHeartbeats 8000000 in
theorem drawIn (a : Option Addr) (len cap : Nat) (z : Nat → Int) (w : World) (hz : ∀ i, 0 ≤ z i ∧ z i ≤ 255) (hl : len ≤ 1048576) (h : Bytes w a len cap z) :
    Calls Try.prog 15 #[.slice a len cap] w (DTwo w) := by
  have b0 : Below w.heap.size w ((w.alloc (.cells #[.int .i64 0, .int .i64 0] 29)).alloc (.cells #[.int .i64 0, .int .i64 0] 29)) := by
    repeat (first | exact Below.refl _ _ | refine Below.alloc ?_ (by simp; try omega) _)
  have h0 := h.kept b0
  go_enter Try.func15, Try.ntmps15
  go_wp2_with fail
  refine (openS a len cap z _ hz hl h0).mono ?_
  rintro e w1 ⟨m, c, rfl, h1, g1⟩
  obtain ⟨R, hR⟩ : ∃ R, R = ((w.alloc (.cells #[.int .i64 0, .int .i64 0] 29)).alloc (.cells #[.int .i64 0, .int .i64 0] 29)).heap.size := ⟨_, rfl⟩
  have hR1 : R = w.heap.size + 1 + 1 := by rw [hR]; simp
  rw [← hR] at h1 ⊢
  have box : BoxIn w.heap.size w1 ∧ BoxIn (w.heap.size + 1) w1 := by
    obtain ⟨hc, hf⟩ := gcell (R := R) ⟨g1.os, g1.tape, g1.output, g1.size, fun k hk _ => g1.block k hk (by simp)⟩
    have hs := g1.size
    simp at hs
    refine ⟨⟨by omega, ⟨.int .i64 0, (hc _ 0 (by simp; omega) (by omega)).trans (by simp [go_sem])⟩, ⟨.int .i64 0, (hc _ 1 (by simp; omega) (by omega)).trans (by simp [go_sem])⟩, fun i => (hf _ i (by simp; omega) (by omega)).trans (by simp [go_sem])⟩, ⟨by omega, ⟨.int .i64 0, (hc _ 0 (by simp) (by omega)).trans (by simp [go_sem])⟩, ⟨.int .i64 0, (hc _ 1 (by simp) (by omega)).trans (by simp [go_sem])⟩, fun i => (hf _ i (by simp) (by omega)).trans (by simp [go_sem])⟩⟩
  have b1 : Below w.heap.size w w1 := b0.grown g1 (by simp; omega) (by simp)
  have hRlt := h1.size
  have hR2 : Hid (R = w.heap.size + 1 + 1) := hR1
  clear g1 h0 hR hR1
  go_wp2_with fail
  refine (itvD R a m c z 0 12 _ h1 (by omega) (by omega) (by omega)).mono ?_
  rintro e w2 ⟨x, y, p2, hx, hy, rfl, hp2, h2, g2⟩
  obtain ⟨X, hX⟩ : ∃ X, X = w2.heap.size := ⟨_, rfl⟩
  have hXS : Hid (X = w2.heap.size) := hX
  have B3 : Bw w R X x y (w2.alloc (.cells #[.int .i64 x, .int .i64 y] 29)) := by
    have gA := World.grownBy_alloc w2 (.cells #[.int .i64 x, .int .i64 y] 29)
    have hs := g2.size
    have hR1 := hR2.out
    refine ⟨below_at b1 (grown_trans g2 (gA _)) (by omega), hR1, by omega, by rw [hX]; simp, box.1.next (R := R) (by omega) (grown_trans g2 (gA _)), box.2.next (R := R) (by omega) (grown_trans g2 (gA _)), ?_, ?_⟩
    · rw [hX]; exact (cell_new w2 _ _ 0 (by simp)).trans rfl
    · rw [hX]; exact (cell_new w2 _ _ 1 (by simp)).trans rfl
  have h3 : Rd (w2.alloc (.cells #[.int .i64 x, .int .i64 y] 29)) R a m c z p2 := h2.kept (World.grownBy_alloc _ _ none) (by simp)
  clear hX
  go_wp2_with fail
  rw [← hXS.out]
  clear hXS g2 h2 h1 box b1 hR2
  refine (pick R a m c z p2 2 _ h3 (by omega) (by omega) (by omega)).mono ?_
  rintro e w4 ⟨y4, hy4, hy4', rfl, h4, g4⟩
  have B4 := B3.next g4
  clear B3 h3 g4
  have d0 := B4.c0
  have d1 := B4.c1
  obtain rfl | rfl : y4 = 0 ∨ y4 = 1 := by omega
  · go_wp2_with fail
    refine (itvOkS _ _ _).mono ?_
    rintro e w5 ⟨rfl, b5⟩
    have B5 := B4.next (grown_below b5 _)
    have h5 := h4.kept (grown_below b5 none) (by simp)
    clear B4 h4 d0 d1
    have B4 := B5
    have h4 := h5
    clear B5 h5
    cases hok : itvOk x y
    · go_wp2_with fail
      have hS0 : SW w R X a m c z (p2 + 1) x y 1 3 4 (fun _ => false) w5.drew := ⟨B4.next (grown_drew _ _), fun _ => h4.drew, by simp, by simp, by simp, by simp⟩
      refine region_inv3 [(0, 21), (1, 22), (2, 23)]
        (fun j v _ => match j with
          | 0 => Is (.pointer (some ⟨R, 0, none⟩)) v
          | 1 => Ag v
          | 2 => Is (.agg #[.int .i64 x, .int .i64 y]) v
          | _ => True)
        (SW w R X a m c z (p2 + 1) x y 1 3 4) TT
        (by kernel_rfl) (by kernel_rfl) (by kernel_rfl) (by kernel_rfl) (by kernel_rfl) rfl hS0 (fun i j v W W' _ h _ => h) ?_ ?_
      · intro i L vals W hi' hφ hS hL hd
        have hi2 : i < 5 := hi'
        have hXlt := hS.1.lt
        rcases (show i = 0 ∨ i = 1 ∨ i = 2 ∨ i = 3 ∨ i = 4 by omega) with rfl | rfl | rfl | rfl | rfl
        · refine wpAt_of rfl rfl ?_
          simp only [frOf, Act.put]
          go_wp2_with fail
          first | exact ⟨trivial, rfl, trivial, hS.pure (by decide) (by decide) (by decide)⟩ | exact ⟨rfl, trivial, hS.pure (by decide) (by decide) (by decide)⟩
        · have k1 : vals 0 = .pointer (some ⟨R, 0, none⟩) := hφ 0 (hd 0 (by decide))
          refine wpAt_of rfl rfl ?_
          simp only [frOf, Act.put]
          go_wp2_with fail
          refine (itvD R a m c z (p2 + 1) 12 _ (hS.2.1 hL) (by omega) (by omega) (by omega)).mono ?_
          rintro e W' ⟨u0, u1, p', q1, q2, rfl, q3, hR', g⟩
          go_wp2_with fail
          first | exact ⟨trivial, ⟨u0, u1, rfl, q1, q2⟩, trivial, hS.call hL (by decide) (by decide) g⟩ | exact ⟨⟨u0, u1, rfl, q1, q2⟩, trivial, hS.call hL (by decide) (by decide) g⟩
        · have d0 := hS.1.c0
          have d1 := hS.1.c1
          refine wpAt_of rfl rfl ?_
          simp only [frOf, Act.put]
          go_wp2_with fail
          first | exact ⟨trivial, rfl, trivial, hS.pure (by decide) (by decide) (by decide)⟩ | exact ⟨rfl, trivial, hS.pure (by decide) (by decide) (by decide)⟩
        · obtain ⟨u0, u1, k1, q1, q2⟩ : Ag (vals 1) := hφ 1 (hd 1 (by decide))
          obtain ⟨_, ⟨v0, e0⟩, ⟨v1, e1⟩, ef⟩ := hS.1.p0
          refine wpAt_none rfl rfl ?_
          simp only [frOf, Act.put]
          go_wp2_with fail
          first | exact ⟨trivial, trivial, trivial, hS.fst hL (hd 1 (by decide)) (by decide) (by decide) q1 q2⟩ | exact ⟨trivial, trivial, hS.fst hL (hd 1 (by decide)) (by decide) (by decide) q1 q2⟩ | exact ⟨trivial, hS.fst hL (hd 1 (by decide)) (by decide) (by decide) q1 q2⟩
        · have k1 : vals 2 = .agg #[.int .i64 x, .int .i64 y] := hφ 2 (hd 2 (by decide))
          obtain ⟨_, ⟨v0, e0⟩, ⟨v1, e1⟩, ef⟩ := hS.1.p1
          refine wpAt_none rfl rfl ?_
          simp only [frOf, Act.put]
          go_wp2_with fail
          first | exact ⟨trivial, trivial, trivial, hS.snd (hd 3 (by decide)) (by decide) (by decide) hx hy⟩ | exact ⟨trivial, trivial, hS.snd (hd 3 (by decide)) (by decide) (by decide) hx hy⟩ | exact ⟨trivial, hS.snd (hd 3 (by decide)) (by decide) (by decide) hx hy⟩
      · intro L vals W hall hφ hS
        obtain ⟨hB, _, h4, h5, _, _⟩ := hS
        obtain ⟨_, u0, u1, d0, d1, q0, q1⟩ := h4 (hall 3 (by decide))
        obtain ⟨_, v0, v1, e0, e1, r0, r1⟩ := h5 (hall 4 (by decide))
        simp only [frOf, Act.put]
        go_wp2_with fail
        exact bodyPost_ret (v := .tuple #[.agg #[.int .i64 u0, .int .i64 u1], .agg #[.int .i64 v0, .int .i64 v1]]) (by simp [results, Try.results15, go_sem, d0, d1, e0, e1]) rfl ⟨u0, u1, v0, v1, q0, q1, r0, r1, rfl, hB.below⟩
    · obtain ⟨k1, k2, hk2⟩ := itvOk_of hok
      have hk1 := ok_lo k1
      have hk3 := ok_hi k2
      clear k1 k2
      go_wp2_with fail
      have hS0 : SW w R X a m c z (p2 + 1) x y 2 4 5 (fun _ => false) w5.drew := ⟨B4.next (grown_drew _ _), fun _ => h4.drew, by simp, by simp, by simp, by simp⟩
      refine region_inv3 [(0, 17), (1, 18), (2, 19), (3, 20)]
        (fun j v _ => match j with
          | 0 => Is (.pointer (some ⟨R, 0, none⟩)) v
          | 1 => Is (.agg #[.int .i64 x, .int .i64 y]) v
          | 2 => Ag v
          | 3 => Is (.agg #[.int .i64 x, .int .i64 y]) v
          | _ => True)
        (SW w R X a m c z (p2 + 1) x y 2 4 5) TT
        (by kernel_rfl) (by kernel_rfl) (by kernel_rfl) (by kernel_rfl) (by kernel_rfl) rfl hS0 (fun i j v W W' _ h _ => h) ?_ ?_
      · intro i L vals W hi' hφ hS hL hd
        have hi2 : i < 6 := hi'
        have hXlt := hS.1.lt
        rcases (show i = 0 ∨ i = 1 ∨ i = 2 ∨ i = 3 ∨ i = 4 ∨ i = 5 by omega) with rfl | rfl | rfl | rfl | rfl | rfl
        · refine wpAt_of rfl rfl ?_
          simp only [frOf, Act.put]
          go_wp2_with fail
          first | exact ⟨trivial, rfl, trivial, hS.pure (by decide) (by decide) (by decide)⟩ | exact ⟨rfl, trivial, hS.pure (by decide) (by decide) (by decide)⟩
        · have d0 := hS.1.c0
          have d1 := hS.1.c1
          refine wpAt_of rfl rfl ?_
          simp only [frOf, Act.put]
          go_wp2_with fail
          first | exact ⟨trivial, rfl, trivial, hS.pure (by decide) (by decide) (by decide)⟩ | exact ⟨rfl, trivial, hS.pure (by decide) (by decide) (by decide)⟩
        · have k1 : vals 0 = .pointer (some ⟨R, 0, none⟩) := hφ 0 (hd 0 (by decide))
          have k2 : vals 1 = .agg #[.int .i64 x, .int .i64 y] := hφ 1 (hd 1 (by decide))
          refine wpAt_of rfl rfl ?_
          simp only [frOf, Act.put]
          go_wp2_with fail
          refine (innerD R a m c z (p2 + 1) x y _ (hS.2.1 hL) (by omega) hk1 hk2 hk3).mono ?_
          rintro e W' ⟨u0, u1, p', q1, q2, rfl, q3, hR', g⟩
          go_wp2_with fail
          first | exact ⟨trivial, ⟨u0, u1, rfl, q1, q2⟩, trivial, hS.call hL (by decide) (by decide) g⟩ | exact ⟨⟨u0, u1, rfl, q1, q2⟩, trivial, hS.call hL (by decide) (by decide) g⟩
        · have d0 := hS.1.c0
          have d1 := hS.1.c1
          refine wpAt_of rfl rfl ?_
          simp only [frOf, Act.put]
          go_wp2_with fail
          first | exact ⟨trivial, rfl, trivial, hS.pure (by decide) (by decide) (by decide)⟩ | exact ⟨rfl, trivial, hS.pure (by decide) (by decide) (by decide)⟩
        · obtain ⟨u0, u1, k1, q1, q2⟩ : Ag (vals 2) := hφ 2 (hd 2 (by decide))
          obtain ⟨_, ⟨v0, e0⟩, ⟨v1, e1⟩, ef⟩ := hS.1.p0
          refine wpAt_none rfl rfl ?_
          simp only [frOf, Act.put]
          go_wp2_with fail
          first | exact ⟨trivial, trivial, trivial, hS.fst hL (hd 2 (by decide)) (by decide) (by decide) q1 q2⟩ | exact ⟨trivial, trivial, hS.fst hL (hd 2 (by decide)) (by decide) (by decide) q1 q2⟩ | exact ⟨trivial, hS.fst hL (hd 2 (by decide)) (by decide) (by decide) q1 q2⟩
        · have k1 : vals 3 = .agg #[.int .i64 x, .int .i64 y] := hφ 3 (hd 3 (by decide))
          obtain ⟨_, ⟨v0, e0⟩, ⟨v1, e1⟩, ef⟩ := hS.1.p1
          refine wpAt_none rfl rfl ?_
          simp only [frOf, Act.put]
          go_wp2_with fail
          first | exact ⟨trivial, trivial, trivial, hS.snd (hd 4 (by decide)) (by decide) (by decide) hx hy⟩ | exact ⟨trivial, trivial, hS.snd (hd 4 (by decide)) (by decide) (by decide) hx hy⟩ | exact ⟨trivial, hS.snd (hd 4 (by decide)) (by decide) (by decide) hx hy⟩
      · intro L vals W hall hφ hS
        obtain ⟨hB, _, h4, h5, _, _⟩ := hS
        obtain ⟨_, u0, u1, d0, d1, q0, q1⟩ := h4 (hall 4 (by decide))
        obtain ⟨_, v0, v1, e0, e1, r0, r1⟩ := h5 (hall 5 (by decide))
        simp only [frOf, Act.put]
        go_wp2_with fail
        exact bodyPost_ret (v := .tuple #[.agg #[.int .i64 u0, .int .i64 u1], .agg #[.int .i64 v0, .int .i64 v1]]) (by simp [results, Try.results15, go_sem, d0, d1, e0, e1]) rfl ⟨u0, u1, v0, v1, q0, q1, r0, r1, rfl, hB.below⟩
  · go_wp2_with fail
    have hS0 : SW w R X a m c z (p2 + 1) x y 1 3 4 (fun _ => false) w4.drew := ⟨B4.next (grown_drew _ _), fun _ => h4.drew, by simp, by simp, by simp, by simp⟩
    refine region_inv3 [(0, 21), (1, 22), (2, 23)]
      (fun j v _ => match j with
        | 0 => Is (.pointer (some ⟨R, 0, none⟩)) v
        | 1 => Ag v
        | 2 => Is (.agg #[.int .i64 x, .int .i64 y]) v
        | _ => True)
      (SW w R X a m c z (p2 + 1) x y 1 3 4) TT
      (by kernel_rfl) (by kernel_rfl) (by kernel_rfl) (by kernel_rfl) (by kernel_rfl) rfl hS0 (fun i j v W W' _ h _ => h) ?_ ?_
    · intro i L vals W hi' hφ hS hL hd
      have hi2 : i < 5 := hi'
      have hXlt := hS.1.lt
      rcases (show i = 0 ∨ i = 1 ∨ i = 2 ∨ i = 3 ∨ i = 4 by omega) with rfl | rfl | rfl | rfl | rfl
      · refine wpAt_of rfl rfl ?_
        simp only [frOf, Act.put]
        go_wp2_with fail
        first | exact ⟨trivial, rfl, trivial, hS.pure (by decide) (by decide) (by decide)⟩ | exact ⟨rfl, trivial, hS.pure (by decide) (by decide) (by decide)⟩
      · have k1 : vals 0 = .pointer (some ⟨R, 0, none⟩) := hφ 0 (hd 0 (by decide))
        refine wpAt_of rfl rfl ?_
        simp only [frOf, Act.put]
        go_wp2_with fail
        refine (itvD R a m c z (p2 + 1) 12 _ (hS.2.1 hL) (by omega) (by omega) (by omega)).mono ?_
        rintro e W' ⟨u0, u1, p', q1, q2, rfl, q3, hR', g⟩
        go_wp2_with fail
        first | exact ⟨trivial, ⟨u0, u1, rfl, q1, q2⟩, trivial, hS.call hL (by decide) (by decide) g⟩ | exact ⟨⟨u0, u1, rfl, q1, q2⟩, trivial, hS.call hL (by decide) (by decide) g⟩
      · have d0 := hS.1.c0
        have d1 := hS.1.c1
        refine wpAt_of rfl rfl ?_
        simp only [frOf, Act.put]
        go_wp2_with fail
        first | exact ⟨trivial, rfl, trivial, hS.pure (by decide) (by decide) (by decide)⟩ | exact ⟨rfl, trivial, hS.pure (by decide) (by decide) (by decide)⟩
      · obtain ⟨u0, u1, k1, q1, q2⟩ : Ag (vals 1) := hφ 1 (hd 1 (by decide))
        obtain ⟨_, ⟨v0, e0⟩, ⟨v1, e1⟩, ef⟩ := hS.1.p0
        refine wpAt_none rfl rfl ?_
        simp only [frOf, Act.put]
        go_wp2_with fail
        first | exact ⟨trivial, trivial, trivial, hS.fst hL (hd 1 (by decide)) (by decide) (by decide) q1 q2⟩ | exact ⟨trivial, trivial, hS.fst hL (hd 1 (by decide)) (by decide) (by decide) q1 q2⟩ | exact ⟨trivial, hS.fst hL (hd 1 (by decide)) (by decide) (by decide) q1 q2⟩
      · have k1 : vals 2 = .agg #[.int .i64 x, .int .i64 y] := hφ 2 (hd 2 (by decide))
        obtain ⟨_, ⟨v0, e0⟩, ⟨v1, e1⟩, ef⟩ := hS.1.p1
        refine wpAt_none rfl rfl ?_
        simp only [frOf, Act.put]
        go_wp2_with fail
        first | exact ⟨trivial, trivial, trivial, hS.snd (hd 3 (by decide)) (by decide) (by decide) hx hy⟩ | exact ⟨trivial, trivial, hS.snd (hd 3 (by decide)) (by decide) (by decide) hx hy⟩ | exact ⟨trivial, hS.snd (hd 3 (by decide)) (by decide) (by decide) hx hy⟩
    · intro L vals W hall hφ hS
      obtain ⟨hB, _, h4, h5, _, _⟩ := hS
      obtain ⟨_, u0, u1, d0, d1, q0, q1⟩ := h4 (hall 3 (by decide))
      obtain ⟨_, v0, v1, e0, e1, r0, r1⟩ := h5 (hall 4 (by decide))
      simp only [frOf, Act.put]
      go_wp2_with fail
      exact bodyPost_ret (v := .tuple #[.agg #[.int .i64 u0, .int .i64 u1], .agg #[.int .i64 v0, .int .i64 v1]]) (by simp [results, Try.results15, go_sem, d0, d1, e0, e1]) rfl ⟨u0, u1, v0, v1, q0, q1, r0, r1, rfl, hB.below⟩
end Go.Proofs.Ytbnpbjkdigmphab
