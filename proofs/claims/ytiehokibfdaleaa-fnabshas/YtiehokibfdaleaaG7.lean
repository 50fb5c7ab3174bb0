/- The drawing of bounds, one in so many with something wrong, of any so many. -/
import Derived.Test.YtiehokibfdaleaaG3
namespace Go.Proofs.Ytiehokibfdaleaa
open Go.ChangeShapes Go.WideShapes Go.ChangeAt Go.RowKit

theorem oddN (R : Nat) (n : Int) (w : World) (h9 : ¬ n < 9000) :
    Calls Try.prog 35 #[.pointer (some ⟨R, 0, none⟩), .int .i64 n] w fun e w' => e = .returned (.bool false) ∧ w' = w := by
  go_enter Try.func35, Try.ntmps35
  go_wp2_with fail
  go_ret
  exact ⟨rfl, rfl⟩
theorem oddU (R : Nat) (a : Option Addr) (m c : Nat) (z : Nat → Int) (p : Nat) (n : Int) (w : World) (h : Rd w R a m c z p) (hp : p < 900000) (hn : 1 ≤ n) :
    Calls Try.prog 35 #[.pointer (some ⟨R, 0, none⟩), .int .i64 n] w fun e w' => ∃ (b : Bool) (p' : Nat), e = .returned (.bool b) ∧ p' ≤ p + 1 ∧ Rd w' R a m c z p' ∧ w.grownBy w' (some R) := by
  by_cases h9 : n < 9000
  · refine (oddS R a m c z p n w h hp hn h9).mono ?_
    rintro e w1 ⟨b, rfl, h1, g1⟩
    exact ⟨b, p + 1, rfl, Nat.le_refl _, h1, g1⟩
  · refine (oddN R n w h9).mono ?_
    rintro e w1 ⟨rfl, rfl⟩
    exact ⟨false, p, rfl, Nat.le_succ _, h, grown_refl _ _⟩
set_option maxRecDepth 10000 in
set_option maxHeartbeats 4000000 in
theorem itvDA (R : Nat) (a : Option Addr) (m c : Nat) (z : Nat → Int) (p : Nat) (n : Int) (w : World) (h : Rd w R a m c z p) (hp : p < 600000) (hn : 1 ≤ n) :
    Calls Try.prog 50 #[.pointer (some ⟨R, 0, none⟩), .int .i64 n] w (DItv R a m c z p w) := by
  have hR := h.size
  have hne : ¬ w.heap.size = R := by omega
  have g0 : w.grownBy (w.alloc (.cells #[.int .i64 0, .int .i64 0] 25)) (some R) := World.grownBy_alloc _ _ _
  have h0 : Rd (w.alloc (.cells #[.int .i64 0, .int .i64 0] 25)) R a m c z p := h.kept (World.grownBy_alloc _ _ none) (by simp)
  go_enter Try.func50, Try.ntmps50
  go_wp2_with fail
  refine (numS R a m c z p _ h0 (by omega)).mono ?_
  rintro e w1 ⟨x1, p1, hx1, hx1', rfl, hp1, h1, g1⟩
  go_wp2_with fail
  refine (numS R a m c z p1 _ h1 (by omega)).mono ?_
  rintro e w2 ⟨x2, p2, hx2, hx2', rfl, hp2, h2, g2⟩
  go_wp2_with fail
  refine (pick R a m c z p2 4 _ h2 (by omega) (by omega) (by omega)).mono ?_
  rintro e w3 ⟨x, hx, hx', rfl, h3, g3⟩
  have g03 := grown_trans g0 (grown_trans g1 (grown_trans g2 g3))
  have G3 := grown_trans g1 (grown_trans g2 g3)
  have hbox : ∀ W, (w.alloc (.cells #[.int .i64 0, .int .i64 0] 25)).grownBy W (some R) → BoxIn w.heap.size W := by
    intro W G
    obtain ⟨hc, hf⟩ := gcell G
    refine ⟨?_, ⟨.int .i64 0, (hc w.heap.size 0 (by simp) hne).trans (by simp [go_sem])⟩, ⟨.int .i64 0, (hc w.heap.size 1 (by simp) hne).trans (by simp [go_sem])⟩, fun i => (hf w.heap.size i (by simp) hne).trans (World.frozen?_alloc_new _ _ _ _)⟩
    have := G.size
    simp at this
    omega
  obtain rfl | rfl | rfl | rfl : x = 0 ∨ x = 1 ∨ x = 2 ∨ x = 3 := by omega
  · clear g0 h0 g1 g2 g3 h1 h2
    have B3 : Bx w R a m c z (p2 + 1) w3.heap.size (x1) (x1) (w3.alloc (.cells #[.int .i64 (x1), .int .i64 (x1)] 25)) := Bx.new h3 g03 hR (hbox w3 (by assumption))
    go_wp2_with fail
    refine (oddU R a m c z (p2 + 1) n _ B3.rd (by omega) hn).mono ?_
    rintro e w5 ⟨o, p5, rfl, hp5, h5, g5⟩
    have B5 := B3.next h5 g5
    clear B3
    cases o
    · clear g5 h5
      obtain ⟨u0, k0⟩ := B5.b0
      obtain ⟨u1, k1⟩ := B5.b1
      have kf := B5.fb
      have d0 := B5.x0
      have d1 := B5.x1
      obtain ⟨e0, e1⟩ := own2 k0 k1
      go_wp2_with fail
      refine bodyPost_ret (v := .agg #[.int .i64 (x1), .int .i64 (x1)]) (by simp [results, Try.results50, go_sem, e0, e1]) rfl (B5.done ⟨by omega, by omega⟩ ⟨by omega, by omega⟩ (by omega))
    · go_wp2_with fail
      refine (pick R a m c z _ 3 _ h5 (by omega) (by omega) (by omega)).mono ?_
      rintro e w6 ⟨y6, hy6, hy6', rfl, h6, g6⟩
      have B6 := B5.next h6 g6
      clear B5 g5 h5
      obtain rfl | rfl | rfl : y6 = 0 ∨ y6 = 1 ∨ y6 = 2 := by omega
      · clear g6 h6
        obtain ⟨u0, k0⟩ := B6.b0
        obtain ⟨u1, k1⟩ := B6.b1
        have kf := B6.fb
        have d0 := B6.x0
        have d1 := B6.x1
        obtain ⟨e0, e1⟩ := own2 k0 k1
        go_wp2_with fail
        refine bodyPost_ret (v := .agg #[.int .i64 (x1), .int .i64 (x1)]) (by simp [results, Try.results50, go_sem, e0, e1]) rfl (B6.done ⟨by omega, by omega⟩ ⟨by omega, by omega⟩ (by omega))
      · go_wp2_with fail
        refine (rawS R a m c z _ _ h6 (by omega)).mono ?_
        rintro e w7 ⟨v7, p7, hv7, hv7', rfl, hp7, h7, g7⟩
        have B7 := B6.next h7 g7
        clear B6 g6 h6 g7 h7
        have B8 := (B7.put v7).1
        have y0 := B7.x0
        have y1 := B7.x1
        have yf := B7.fx
        obtain ⟨u0, k0⟩ := B8.b0
        obtain ⟨u1, k1⟩ := B8.b1
        have kf := B8.fb
        have d0 := B8.x0
        have d1 := B8.x1
        obtain ⟨e0, e1⟩ := own2 k0 k1
        go_wp2_with fail
        refine bodyPost_ret (v := .agg #[.int .i64 (v7), .int .i64 (x1)]) (by simp [results, Try.results50, go_sem, e0, e1]) rfl (B8.done ⟨by omega, by omega⟩ ⟨by omega, by omega⟩ (by omega))
      · go_wp2_with fail
        refine (rawS R a m c z _ _ h6 (by omega)).mono ?_
        rintro e w7 ⟨v7, p7, hv7, hv7', rfl, hp7, h7, g7⟩
        have B7 := B6.next h7 g7
        clear B6 g6 h6 g7 h7
        have B8 := (B7.put v7).2
        have y0 := B7.x0
        have y1 := B7.x1
        have yf := B7.fx
        obtain ⟨u0, k0⟩ := B8.b0
        obtain ⟨u1, k1⟩ := B8.b1
        have kf := B8.fb
        have d0 := B8.x0
        have d1 := B8.x1
        obtain ⟨e0, e1⟩ := own2 k0 k1
        go_wp2_with fail
        refine bodyPost_ret (v := .agg #[.int .i64 (x1), .int .i64 (v7)]) (by simp [results, Try.results50, go_sem, e0, e1]) rfl (B8.done ⟨by omega, by omega⟩ ⟨by omega, by omega⟩ (by omega))
  · go_wp2_with fail
    refine (pick R a m c z _ 5 _ h3 (by omega) (by omega) (by omega)).mono ?_
    rintro e w4 ⟨y, hy, hy', rfl, h4, g4⟩
    have g04 := grown_trans g03 g4
    have G4 := grown_trans G3 g4
    clear g0 h0 g1 g2 g3 h1 h2 g4 h3 G3 g03
    by_cases hc : x1 + y < 32767
    · by_cases hy0 : y = 0
      · subst hy0
        simp only [Int.add_zero] at hc
        have B3 : Bx w R a m c z (p2 + 1 + 1) w4.heap.size (x1) (x1) (w4.alloc (.cells #[.int .i64 (x1), .int .i64 (x1)] 25)) := Bx.new h4 g04 hR (hbox w4 (by assumption))
        go_wp2_with fail
        refine (oddU R a m c z (p2 + 1 + 1) n _ B3.rd (by omega) hn).mono ?_
        rintro e w5 ⟨o, p5, rfl, hp5, h5, g5⟩
        have B5 := B3.next h5 g5
        clear B3
        cases o
        · clear g5 h5
          obtain ⟨u0, k0⟩ := B5.b0
          obtain ⟨u1, k1⟩ := B5.b1
          have kf := B5.fb
          have d0 := B5.x0
          have d1 := B5.x1
          obtain ⟨e0, e1⟩ := own2 k0 k1
          go_wp2_with fail
          refine bodyPost_ret (v := .agg #[.int .i64 (x1), .int .i64 (x1)]) (by simp [results, Try.results50, go_sem, e0, e1]) rfl (B5.done ⟨by omega, by omega⟩ ⟨by omega, by omega⟩ (by omega))
        · go_wp2_with fail
          refine (pick R a m c z _ 3 _ h5 (by omega) (by omega) (by omega)).mono ?_
          rintro e w6 ⟨y6, hy6, hy6', rfl, h6, g6⟩
          have B6 := B5.next h6 g6
          clear B5 g5 h5
          obtain rfl | rfl | rfl : y6 = 0 ∨ y6 = 1 ∨ y6 = 2 := by omega
          · clear g6 h6
            obtain ⟨u0, k0⟩ := B6.b0
            obtain ⟨u1, k1⟩ := B6.b1
            have kf := B6.fb
            have d0 := B6.x0
            have d1 := B6.x1
            obtain ⟨e0, e1⟩ := own2 k0 k1
            go_wp2_with fail
            refine bodyPost_ret (v := .agg #[.int .i64 (x1), .int .i64 (x1)]) (by simp [results, Try.results50, go_sem, e0, e1]) rfl (B6.done ⟨by omega, by omega⟩ ⟨by omega, by omega⟩ (by omega))
          · go_wp2_with fail
            refine (rawS R a m c z _ _ h6 (by omega)).mono ?_
            rintro e w7 ⟨v7, p7, hv7, hv7', rfl, hp7, h7, g7⟩
            have B7 := B6.next h7 g7
            clear B6 g6 h6 g7 h7
            have B8 := (B7.put v7).1
            have y0 := B7.x0
            have y1 := B7.x1
            have yf := B7.fx
            obtain ⟨u0, k0⟩ := B8.b0
            obtain ⟨u1, k1⟩ := B8.b1
            have kf := B8.fb
            have d0 := B8.x0
            have d1 := B8.x1
            obtain ⟨e0, e1⟩ := own2 k0 k1
            go_wp2_with fail
            refine bodyPost_ret (v := .agg #[.int .i64 (v7), .int .i64 (x1)]) (by simp [results, Try.results50, go_sem, e0, e1]) rfl (B8.done ⟨by omega, by omega⟩ ⟨by omega, by omega⟩ (by omega))
          · go_wp2_with fail
            refine (rawS R a m c z _ _ h6 (by omega)).mono ?_
            rintro e w7 ⟨v7, p7, hv7, hv7', rfl, hp7, h7, g7⟩
            have B7 := B6.next h7 g7
            clear B6 g6 h6 g7 h7
            have B8 := (B7.put v7).2
            have y0 := B7.x0
            have y1 := B7.x1
            have yf := B7.fx
            obtain ⟨u0, k0⟩ := B8.b0
            obtain ⟨u1, k1⟩ := B8.b1
            have kf := B8.fb
            have d0 := B8.x0
            have d1 := B8.x1
            obtain ⟨e0, e1⟩ := own2 k0 k1
            go_wp2_with fail
            refine bodyPost_ret (v := .agg #[.int .i64 (x1), .int .i64 (v7)]) (by simp [results, Try.results50, go_sem, e0, e1]) rfl (B8.done ⟨by omega, by omega⟩ ⟨by omega, by omega⟩ (by omega))
      · have m1 : x1 < x1 + y := by omega
        have B3 : Bx w R a m c z (p2 + 1 + 1) w4.heap.size (x1) (x1 + y) (w4.alloc (.cells #[.int .i64 (x1), .int .i64 (x1 + y)] 25)) := Bx.new h4 g04 hR (hbox w4 (by assumption))
        go_wp2_with fail
        refine (oddU R a m c z (p2 + 1 + 1) n _ B3.rd (by omega) hn).mono ?_
        rintro e w5 ⟨o, p5, rfl, hp5, h5, g5⟩
        have B5 := B3.next h5 g5
        clear B3
        cases o
        · clear g5 h5
          obtain ⟨u0, k0⟩ := B5.b0
          obtain ⟨u1, k1⟩ := B5.b1
          have kf := B5.fb
          have d0 := B5.x0
          have d1 := B5.x1
          obtain ⟨e0, e1⟩ := own2 k0 k1
          go_wp2_with fail
          refine bodyPost_ret (v := .agg #[.int .i64 (x1), .int .i64 (x1 + y)]) (by simp [results, Try.results50, go_sem, e0, e1]) rfl (B5.done ⟨by omega, by omega⟩ ⟨by omega, by omega⟩ (by omega))
        · go_wp2_with fail
          refine (pick R a m c z _ 3 _ h5 (by omega) (by omega) (by omega)).mono ?_
          rintro e w6 ⟨y6, hy6, hy6', rfl, h6, g6⟩
          have B6 := B5.next h6 g6
          clear B5 g5 h5
          obtain rfl | rfl | rfl : y6 = 0 ∨ y6 = 1 ∨ y6 = 2 := by omega
          · clear g6 h6
            obtain ⟨u0, k0⟩ := B6.b0
            obtain ⟨u1, k1⟩ := B6.b1
            have kf := B6.fb
            have d0 := B6.x0
            have d1 := B6.x1
            obtain ⟨e0, e1⟩ := own2 k0 k1
            go_wp2_with fail
            refine bodyPost_ret (v := .agg #[.int .i64 (x1 + y), .int .i64 (x1)]) (by simp [results, Try.results50, go_sem, e0, e1]) rfl (B6.done ⟨by omega, by omega⟩ ⟨by omega, by omega⟩ (by omega))
          · go_wp2_with fail
            refine (rawS R a m c z _ _ h6 (by omega)).mono ?_
            rintro e w7 ⟨v7, p7, hv7, hv7', rfl, hp7, h7, g7⟩
            have B7 := B6.next h7 g7
            clear B6 g6 h6 g7 h7
            have B8 := (B7.put v7).1
            have y0 := B7.x0
            have y1 := B7.x1
            have yf := B7.fx
            obtain ⟨u0, k0⟩ := B8.b0
            obtain ⟨u1, k1⟩ := B8.b1
            have kf := B8.fb
            have d0 := B8.x0
            have d1 := B8.x1
            obtain ⟨e0, e1⟩ := own2 k0 k1
            go_wp2_with fail
            refine bodyPost_ret (v := .agg #[.int .i64 (v7), .int .i64 (x1 + y)]) (by simp [results, Try.results50, go_sem, e0, e1]) rfl (B8.done ⟨by omega, by omega⟩ ⟨by omega, by omega⟩ (by omega))
          · go_wp2_with fail
            refine (rawS R a m c z _ _ h6 (by omega)).mono ?_
            rintro e w7 ⟨v7, p7, hv7, hv7', rfl, hp7, h7, g7⟩
            have B7 := B6.next h7 g7
            clear B6 g6 h6 g7 h7
            have B8 := (B7.put v7).2
            have y0 := B7.x0
            have y1 := B7.x1
            have yf := B7.fx
            obtain ⟨u0, k0⟩ := B8.b0
            obtain ⟨u1, k1⟩ := B8.b1
            have kf := B8.fb
            have d0 := B8.x0
            have d1 := B8.x1
            obtain ⟨e0, e1⟩ := own2 k0 k1
            go_wp2_with fail
            refine bodyPost_ret (v := .agg #[.int .i64 (x1), .int .i64 (v7)]) (by simp [results, Try.results50, go_sem, e0, e1]) rfl (B8.done ⟨by omega, by omega⟩ ⟨by omega, by omega⟩ (by omega))
    · by_cases h32 : x1 = 32767
      · subst h32
        have B3 : Bx w R a m c z (p2 + 1 + 1) w4.heap.size (32767) (32767) (w4.alloc (.cells #[.int .i64 (32767), .int .i64 (32767)] 25)) := Bx.new h4 g04 hR (hbox w4 (by assumption))
        go_wp2_with fail
        refine (oddU R a m c z (p2 + 1 + 1) n _ B3.rd (by omega) hn).mono ?_
        rintro e w5 ⟨o, p5, rfl, hp5, h5, g5⟩
        have B5 := B3.next h5 g5
        clear B3
        cases o
        · clear g5 h5
          obtain ⟨u0, k0⟩ := B5.b0
          obtain ⟨u1, k1⟩ := B5.b1
          have kf := B5.fb
          have d0 := B5.x0
          have d1 := B5.x1
          obtain ⟨e0, e1⟩ := own2 k0 k1
          go_wp2_with fail
          refine bodyPost_ret (v := .agg #[.int .i64 (32767), .int .i64 (32767)]) (by simp [results, Try.results50, go_sem, e0, e1]) rfl (B5.done ⟨by omega, by omega⟩ ⟨by omega, by omega⟩ (by omega))
        · go_wp2_with fail
          refine (pick R a m c z _ 3 _ h5 (by omega) (by omega) (by omega)).mono ?_
          rintro e w6 ⟨y6, hy6, hy6', rfl, h6, g6⟩
          have B6 := B5.next h6 g6
          clear B5 g5 h5
          obtain rfl | rfl | rfl : y6 = 0 ∨ y6 = 1 ∨ y6 = 2 := by omega
          · clear g6 h6
            obtain ⟨u0, k0⟩ := B6.b0
            obtain ⟨u1, k1⟩ := B6.b1
            have kf := B6.fb
            have d0 := B6.x0
            have d1 := B6.x1
            obtain ⟨e0, e1⟩ := own2 k0 k1
            go_wp2_with fail
            refine bodyPost_ret (v := .agg #[.int .i64 (32767), .int .i64 (32767)]) (by simp [results, Try.results50, go_sem, e0, e1]) rfl (B6.done ⟨by omega, by omega⟩ ⟨by omega, by omega⟩ (by omega))
          · go_wp2_with fail
            refine (rawS R a m c z _ _ h6 (by omega)).mono ?_
            rintro e w7 ⟨v7, p7, hv7, hv7', rfl, hp7, h7, g7⟩
            have B7 := B6.next h7 g7
            clear B6 g6 h6 g7 h7
            have B8 := (B7.put v7).1
            have y0 := B7.x0
            have y1 := B7.x1
            have yf := B7.fx
            obtain ⟨u0, k0⟩ := B8.b0
            obtain ⟨u1, k1⟩ := B8.b1
            have kf := B8.fb
            have d0 := B8.x0
            have d1 := B8.x1
            obtain ⟨e0, e1⟩ := own2 k0 k1
            go_wp2_with fail
            refine bodyPost_ret (v := .agg #[.int .i64 (v7), .int .i64 (32767)]) (by simp [results, Try.results50, go_sem, e0, e1]) rfl (B8.done ⟨by omega, by omega⟩ ⟨by omega, by omega⟩ (by omega))
          · go_wp2_with fail
            refine (rawS R a m c z _ _ h6 (by omega)).mono ?_
            rintro e w7 ⟨v7, p7, hv7, hv7', rfl, hp7, h7, g7⟩
            have B7 := B6.next h7 g7
            clear B6 g6 h6 g7 h7
            have B8 := (B7.put v7).2
            have y0 := B7.x0
            have y1 := B7.x1
            have yf := B7.fx
            obtain ⟨u0, k0⟩ := B8.b0
            obtain ⟨u1, k1⟩ := B8.b1
            have kf := B8.fb
            have d0 := B8.x0
            have d1 := B8.x1
            obtain ⟨e0, e1⟩ := own2 k0 k1
            go_wp2_with fail
            refine bodyPost_ret (v := .agg #[.int .i64 (32767), .int .i64 (v7)]) (by simp [results, Try.results50, go_sem, e0, e1]) rfl (B8.done ⟨by omega, by omega⟩ ⟨by omega, by omega⟩ (by omega))
      · have m1 : x1 < 32767 := by omega
        have B3 : Bx w R a m c z (p2 + 1 + 1) w4.heap.size (x1) (32767) (w4.alloc (.cells #[.int .i64 (x1), .int .i64 (32767)] 25)) := Bx.new h4 g04 hR (hbox w4 (by assumption))
        go_wp2_with fail
        refine (oddU R a m c z (p2 + 1 + 1) n _ B3.rd (by omega) hn).mono ?_
        rintro e w5 ⟨o, p5, rfl, hp5, h5, g5⟩
        have B5 := B3.next h5 g5
        clear B3
        cases o
        · clear g5 h5
          obtain ⟨u0, k0⟩ := B5.b0
          obtain ⟨u1, k1⟩ := B5.b1
          have kf := B5.fb
          have d0 := B5.x0
          have d1 := B5.x1
          obtain ⟨e0, e1⟩ := own2 k0 k1
          go_wp2_with fail
          refine bodyPost_ret (v := .agg #[.int .i64 (x1), .int .i64 (32767)]) (by simp [results, Try.results50, go_sem, e0, e1]) rfl (B5.done ⟨by omega, by omega⟩ ⟨by omega, by omega⟩ (by omega))
        · go_wp2_with fail
          refine (pick R a m c z _ 3 _ h5 (by omega) (by omega) (by omega)).mono ?_
          rintro e w6 ⟨y6, hy6, hy6', rfl, h6, g6⟩
          have B6 := B5.next h6 g6
          clear B5 g5 h5
          obtain rfl | rfl | rfl : y6 = 0 ∨ y6 = 1 ∨ y6 = 2 := by omega
          · clear g6 h6
            obtain ⟨u0, k0⟩ := B6.b0
            obtain ⟨u1, k1⟩ := B6.b1
            have kf := B6.fb
            have d0 := B6.x0
            have d1 := B6.x1
            obtain ⟨e0, e1⟩ := own2 k0 k1
            go_wp2_with fail
            refine bodyPost_ret (v := .agg #[.int .i64 (32767), .int .i64 (x1)]) (by simp [results, Try.results50, go_sem, e0, e1]) rfl (B6.done ⟨by omega, by omega⟩ ⟨by omega, by omega⟩ (by omega))
          · go_wp2_with fail
            refine (rawS R a m c z _ _ h6 (by omega)).mono ?_
            rintro e w7 ⟨v7, p7, hv7, hv7', rfl, hp7, h7, g7⟩
            have B7 := B6.next h7 g7
            clear B6 g6 h6 g7 h7
            have B8 := (B7.put v7).1
            have y0 := B7.x0
            have y1 := B7.x1
            have yf := B7.fx
            obtain ⟨u0, k0⟩ := B8.b0
            obtain ⟨u1, k1⟩ := B8.b1
            have kf := B8.fb
            have d0 := B8.x0
            have d1 := B8.x1
            obtain ⟨e0, e1⟩ := own2 k0 k1
            go_wp2_with fail
            refine bodyPost_ret (v := .agg #[.int .i64 (v7), .int .i64 (32767)]) (by simp [results, Try.results50, go_sem, e0, e1]) rfl (B8.done ⟨by omega, by omega⟩ ⟨by omega, by omega⟩ (by omega))
          · go_wp2_with fail
            refine (rawS R a m c z _ _ h6 (by omega)).mono ?_
            rintro e w7 ⟨v7, p7, hv7, hv7', rfl, hp7, h7, g7⟩
            have B7 := B6.next h7 g7
            clear B6 g6 h6 g7 h7
            have B8 := (B7.put v7).2
            have y0 := B7.x0
            have y1 := B7.x1
            have yf := B7.fx
            obtain ⟨u0, k0⟩ := B8.b0
            obtain ⟨u1, k1⟩ := B8.b1
            have kf := B8.fb
            have d0 := B8.x0
            have d1 := B8.x1
            obtain ⟨e0, e1⟩ := own2 k0 k1
            go_wp2_with fail
            refine bodyPost_ret (v := .agg #[.int .i64 (x1), .int .i64 (v7)]) (by simp [results, Try.results50, go_sem, e0, e1]) rfl (B8.done ⟨by omega, by omega⟩ ⟨by omega, by omega⟩ (by omega))
  · go_wp2_with fail
    obtain ⟨B, hB⟩ : ∃ B, B = w.heap.size := ⟨_, rfl⟩
    have c0 := G3.cell (a := ⟨w.heap.size, 0, none⟩) (v := .int .i64 0) (by simp [go_sem]) (by simp; omega)
    have c1 := G3.cell (a := ⟨w.heap.size, 1, none⟩) (v := .int .i64 0) (by simp [go_sem]) (by simp; omega)
    have cf : ∀ i, w3.frozen? ⟨w.heap.size, i, none⟩ = false := fun i => ((gcell G3).2 w.heap.size i (by simp) hne).trans (World.frozen?_alloc_new _ _ _ _)
    have hlt3 : w.heap.size < w3.heap.size := by have := G3.size; simp at this; omega
    have hwB : w.heap.size ≤ B := by omega
    rw [← hB] at c0 c1 cf hne hlt3
    rw [← hB]
    clear hB g0 h0 g1 g2 g3 G3 h1 h2
    refine region_inv3 [(0, 26), (1, 27), (2, 28), (3, 29), (4, 30), (5, 31), (6, 32), (7, 33), (8, 34), (9, 35), (10, 36)]
      (fun j v W => match j with
        | 0 => Five R B v W
        | 1 => v = .pointer (some ⟨R, 0, none⟩)
        | 2 => ∃ k : Nat, k < 5 ∧ v = .int .i64 k
        | 3 => Spotted R B v W
        | 4 => ∃ y, v = .int .i64 y ∧ I64 y
        | 5 => Five R B v W
        | 6 => v = .pointer (some ⟨R, 0, none⟩)
        | 7 => ∃ k : Nat, k < 5 ∧ v = .int .i64 k
        | 8 => Spotted R B v W
        | 9 => ∃ y, v = .int .i64 y ∧ I64 y
        | 10 => ∃ x y, v = .agg #[.int .i64 x, .int .i64 y] ∧ I64 x ∧ I64 y
        | 11 => TwoIn B W
        | _ => True)
      (SL w R a m c z (p2 + 1) B 2 7)
      (Kept R B 11)
      (by kernel_rfl) (by kernel_rfl) (by kernel_rfl) (by kernel_rfl) (by kernel_rfl) rfl ⟨h3.drew, grown_trans g03 (grown_drew _ _), hlt3, ⟨_, c0⟩, ⟨_, c1⟩, cf⟩ ?_ ?_ ?_
    · intro i j v W W' hji hφ hT
      match j, hji, hφ with
      | 0, _, hφ => exact Five.next hφ hT
      | 1, _, hφ => exact hφ
      | 2, _, hφ => exact hφ
      | 3, _, hφ => exact Spotted.next hφ hT
      | 4, _, hφ => exact hφ
      | 5, _, hφ => exact Five.next hφ hT
      | 6, _, hφ => exact hφ
      | 7, _, hφ => exact hφ
      | 8, _, hφ => exact Spotted.next hφ hT
      | 9, _, hφ => exact hφ
      | 10, _, hφ => exact hφ
      | 11, hji, hφ => exact TwoIn.next hφ hT hji
      | _ + 12, _, _ => trivial
    · intro i L vals W hi hφ hS hL hd
      have hi' : i < 12 := hi
      obtain ⟨hRd, hG, hX⟩ := hS
      have hS : SL w R a m c z (p2 + 1) B 2 7 L W := ⟨hRd, hG, hX⟩
      have hRs := hRd.size
      have hXs := hX.1
      have hBR : B ≠ R := hne
      rcases (show i = 0 ∨ i = 1 ∨ i = 2 ∨ i = 3 ∨ i = 4 ∨ i = 5 ∨ i = 6 ∨ i = 7 ∨ i = 8 ∨ i = 9 ∨ i = 10 ∨ i = 11 by omega) with rfl | rfl | rfl | rfl | rfl | rfl | rfl | rfl | rfl | rfl | rfl | rfl
      · refine wpAt_of rfl rfl ?_
        simp only [frOf, Act.put]
        go_wp2_with fail
        exact ⟨trivial, five_of hRs hXs rfl (by kernel_rfl), Kept.of hXs hBR (World.grownBy_alloc _ _ _), (hS.pure (by decide) (by decide)).alloc hBR _⟩
      · refine wpAt_of rfl rfl ?_
        simp only [frOf, Act.put]
        go_wp2_with fail
        exact ⟨trivial, rfl, Kept.refl _ _ _ _ _, hS.pure (by decide) (by decide)⟩
      · have k1 : vals 1 = .pointer (some ⟨R, 0, none⟩) := hφ 1 (hd 1 (by decide))
        have hb : p2 + 1 + (if L 2 then 1 else 0) + (if L 7 then 1 else 0) < 1000000 := by split <;> split <;> omega
        refine wpAt_of rfl rfl ?_
        simp only [frOf, Act.put]
        go_wp2_with fail
        refine (pick R a m c z _ 5 _ hRd (by omega) (by omega) hb).mono ?_
        rintro e W' ⟨x, hx1, hx2, rfl, hR', g⟩
        obtain ⟨k, rfl⟩ := Int.eq_ofNat_of_zero_le hx1
        go_wp2_with fail
        exact ⟨trivial, ⟨k, by omega, rfl⟩, Kept.of hXs hBR g, hS.fst hBR (by decide) hL hR' g⟩
      · obtain ⟨g, k1, q1, q2, q3, q4⟩ : Five R B (vals 0) W := hφ 0 (hd 0 (by decide))
        obtain ⟨k, hk, k2⟩ : ∃ k : Nat, k < 5 ∧ vals 2 = .int .i64 k := hφ 2 (hd 2 (by decide))
        have t1 : ((k : Int)).toNat = k := by omega
        have t2 : (0 : Int) ≤ (k : Int) := by omega
        have t3 : (k : Int) < 5 := by omega
        refine wpAt_of rfl rfl ?_
        simp only [frOf, Act.put]
        go_wp2_with fail
        exact ⟨trivial, ⟨g, k, rfl, q1, q2, q3, q4 k hk⟩, Kept.refl _ _ _ _ _, hS.pure (by decide) (by decide)⟩
      · obtain ⟨g, k, k1, q1, q2, q3, y, q4, q5⟩ : Spotted R B (vals 3) W := hφ 3 (hd 3 (by decide))
        refine wpAt_of rfl rfl ?_
        simp only [frOf, Act.put]
        go_wp2_with fail
        exact ⟨trivial, ⟨y, rfl, q5⟩, Kept.refl _ _ _ _ _, hS.pure (by decide) (by decide)⟩
      · refine wpAt_of rfl rfl ?_
        simp only [frOf, Act.put]
        go_wp2_with fail
        exact ⟨trivial, five_of hRs hXs rfl (by kernel_rfl), Kept.of hXs hBR (World.grownBy_alloc _ _ _), (hS.pure (by decide) (by decide)).alloc hBR _⟩
      · refine wpAt_of rfl rfl ?_
        simp only [frOf, Act.put]
        go_wp2_with fail
        exact ⟨trivial, rfl, Kept.refl _ _ _ _ _, hS.pure (by decide) (by decide)⟩
      · have k1 : vals 6 = .pointer (some ⟨R, 0, none⟩) := hφ 6 (hd 6 (by decide))
        have hb : p2 + 1 + (if L 2 then 1 else 0) + (if L 7 then 1 else 0) < 1000000 := by split <;> split <;> omega
        refine wpAt_of rfl rfl ?_
        simp only [frOf, Act.put]
        go_wp2_with fail
        refine (pick R a m c z _ 5 _ hRd (by omega) (by omega) hb).mono ?_
        rintro e W' ⟨x, hx1, hx2, rfl, hR', g⟩
        obtain ⟨k, rfl⟩ := Int.eq_ofNat_of_zero_le hx1
        go_wp2_with fail
        exact ⟨trivial, ⟨k, by omega, rfl⟩, Kept.of hXs hBR g, hS.snd hBR (by decide) hL hR' g⟩
      · obtain ⟨g, k1, q1, q2, q3, q4⟩ : Five R B (vals 5) W := hφ 5 (hd 5 (by decide))
        obtain ⟨k, hk, k2⟩ : ∃ k : Nat, k < 5 ∧ vals 7 = .int .i64 k := hφ 7 (hd 7 (by decide))
        have t1 : ((k : Int)).toNat = k := by omega
        have t2 : (0 : Int) ≤ (k : Int) := by omega
        have t3 : (k : Int) < 5 := by omega
        refine wpAt_of rfl rfl ?_
        simp only [frOf, Act.put]
        go_wp2_with fail
        exact ⟨trivial, ⟨g, k, rfl, q1, q2, q3, q4 k hk⟩, Kept.refl _ _ _ _ _, hS.pure (by decide) (by decide)⟩
      · obtain ⟨g, k, k1, q1, q2, q3, y, q4, q5⟩ : Spotted R B (vals 8) W := hφ 8 (hd 8 (by decide))
        refine wpAt_of rfl rfl ?_
        simp only [frOf, Act.put]
        go_wp2_with fail
        exact ⟨trivial, ⟨y, rfl, q5⟩, Kept.refl _ _ _ _ _, hS.pure (by decide) (by decide)⟩
      · obtain ⟨x, k1, q1⟩ : ∃ y, vals 4 = .int .i64 y ∧ I64 y := hφ 4 (hd 4 (by decide))
        obtain ⟨y, k2, q2⟩ : ∃ y, vals 9 = .int .i64 y ∧ I64 y := hφ 9 (hd 9 (by decide))
        refine wpAt_of rfl rfl ?_
        simp only [frOf, Act.put]
        go_wp2_with fail
        exact ⟨trivial, ⟨x, y, rfl, q1, q2⟩, Kept.refl _ _ _ _ _, hS.pure (by decide) (by decide)⟩
      · obtain ⟨x, y, k1, q1, q2⟩ : ∃ x y, vals 10 = .agg #[.int .i64 x, .int .i64 y] ∧ I64 x ∧ I64 y := hφ 10 (hd 10 (by decide))
        obtain ⟨_, ⟨u0, c0⟩, ⟨u1, c1⟩, cf⟩ := hX
        refine wpAt_none rfl rfl ?_
        simp only [frOf, Act.put]
        go_wp2_with fail
        exact ⟨trivial, two_set hS.2.2 q1 q2, kept_set _ _, (hS.pure (by decide) (by decide)).set hwB hR _ _⟩
    · intro L vals W hall hφ hS
      obtain ⟨h0, x, y, d0, d1, hx, hy⟩ : TwoIn B W := hφ 11 (by decide)
      obtain ⟨hRd, hG, hX⟩ := hS
      have l2 : L 2 = true := hall 2 (by decide)
      have l7 : L 7 = true := hall 7 (by decide)
      rw [l2, l7] at hRd
      simp only [frOf, Act.put]
      go_wp2_with fail
      refine bodyPost_ret (v := .agg #[.int .i64 x, .int .i64 y]) (by simp [results, Try.results50, go_sem, d0, d1]) rfl ⟨x, y, _, hx, hy, rfl, ?_, hRd, hG⟩
      simp; omega
  · clear g0 h0 g1 g2 g3 h1 h2
    by_cases hc : x1 < x2
    · have B3 : Bx w R a m c z (p2 + 1) w3.heap.size (x1) (x2) (w3.alloc (.cells #[.int .i64 (x1), .int .i64 (x2)] 25)) := Bx.new h3 g03 hR (hbox w3 (by assumption))
      go_wp2_with fail
      refine (oddU R a m c z (p2 + 1) n _ B3.rd (by omega) hn).mono ?_
      rintro e w5 ⟨o, p5, rfl, hp5, h5, g5⟩
      have B5 := B3.next h5 g5
      clear B3
      cases o
      · clear g5 h5
        obtain ⟨u0, k0⟩ := B5.b0
        obtain ⟨u1, k1⟩ := B5.b1
        have kf := B5.fb
        have d0 := B5.x0
        have d1 := B5.x1
        obtain ⟨e0, e1⟩ := own2 k0 k1
        go_wp2_with fail
        refine bodyPost_ret (v := .agg #[.int .i64 (x1), .int .i64 (x2)]) (by simp [results, Try.results50, go_sem, e0, e1]) rfl (B5.done ⟨by omega, by omega⟩ ⟨by omega, by omega⟩ (by omega))
      · go_wp2_with fail
        refine (pick R a m c z _ 3 _ h5 (by omega) (by omega) (by omega)).mono ?_
        rintro e w6 ⟨y6, hy6, hy6', rfl, h6, g6⟩
        have B6 := B5.next h6 g6
        clear B5 g5 h5
        obtain rfl | rfl | rfl : y6 = 0 ∨ y6 = 1 ∨ y6 = 2 := by omega
        · clear g6 h6
          obtain ⟨u0, k0⟩ := B6.b0
          obtain ⟨u1, k1⟩ := B6.b1
          have kf := B6.fb
          have d0 := B6.x0
          have d1 := B6.x1
          obtain ⟨e0, e1⟩ := own2 k0 k1
          go_wp2_with fail
          refine bodyPost_ret (v := .agg #[.int .i64 (x2), .int .i64 (x1)]) (by simp [results, Try.results50, go_sem, e0, e1]) rfl (B6.done ⟨by omega, by omega⟩ ⟨by omega, by omega⟩ (by omega))
        · go_wp2_with fail
          refine (rawS R a m c z _ _ h6 (by omega)).mono ?_
          rintro e w7 ⟨v7, p7, hv7, hv7', rfl, hp7, h7, g7⟩
          have B7 := B6.next h7 g7
          clear B6 g6 h6 g7 h7
          have B8 := (B7.put v7).1
          have y0 := B7.x0
          have y1 := B7.x1
          have yf := B7.fx
          obtain ⟨u0, k0⟩ := B8.b0
          obtain ⟨u1, k1⟩ := B8.b1
          have kf := B8.fb
          have d0 := B8.x0
          have d1 := B8.x1
          obtain ⟨e0, e1⟩ := own2 k0 k1
          go_wp2_with fail
          refine bodyPost_ret (v := .agg #[.int .i64 (v7), .int .i64 (x2)]) (by simp [results, Try.results50, go_sem, e0, e1]) rfl (B8.done ⟨by omega, by omega⟩ ⟨by omega, by omega⟩ (by omega))
        · go_wp2_with fail
          refine (rawS R a m c z _ _ h6 (by omega)).mono ?_
          rintro e w7 ⟨v7, p7, hv7, hv7', rfl, hp7, h7, g7⟩
          have B7 := B6.next h7 g7
          clear B6 g6 h6 g7 h7
          have B8 := (B7.put v7).2
          have y0 := B7.x0
          have y1 := B7.x1
          have yf := B7.fx
          obtain ⟨u0, k0⟩ := B8.b0
          obtain ⟨u1, k1⟩ := B8.b1
          have kf := B8.fb
          have d0 := B8.x0
          have d1 := B8.x1
          obtain ⟨e0, e1⟩ := own2 k0 k1
          go_wp2_with fail
          refine bodyPost_ret (v := .agg #[.int .i64 (x1), .int .i64 (v7)]) (by simp [results, Try.results50, go_sem, e0, e1]) rfl (B8.done ⟨by omega, by omega⟩ ⟨by omega, by omega⟩ (by omega))
    · by_cases he : x1 = x2
      · subst he
        have B3 : Bx w R a m c z (p2 + 1) w3.heap.size (x1) (x1) (w3.alloc (.cells #[.int .i64 (x1), .int .i64 (x1)] 25)) := Bx.new h3 g03 hR (hbox w3 (by assumption))
        go_wp2_with fail
        refine (oddU R a m c z (p2 + 1) n _ B3.rd (by omega) hn).mono ?_
        rintro e w5 ⟨o, p5, rfl, hp5, h5, g5⟩
        have B5 := B3.next h5 g5
        clear B3
        cases o
        · clear g5 h5
          obtain ⟨u0, k0⟩ := B5.b0
          obtain ⟨u1, k1⟩ := B5.b1
          have kf := B5.fb
          have d0 := B5.x0
          have d1 := B5.x1
          obtain ⟨e0, e1⟩ := own2 k0 k1
          go_wp2_with fail
          refine bodyPost_ret (v := .agg #[.int .i64 (x1), .int .i64 (x1)]) (by simp [results, Try.results50, go_sem, e0, e1]) rfl (B5.done ⟨by omega, by omega⟩ ⟨by omega, by omega⟩ (by omega))
        · go_wp2_with fail
          refine (pick R a m c z _ 3 _ h5 (by omega) (by omega) (by omega)).mono ?_
          rintro e w6 ⟨y6, hy6, hy6', rfl, h6, g6⟩
          have B6 := B5.next h6 g6
          clear B5 g5 h5
          obtain rfl | rfl | rfl : y6 = 0 ∨ y6 = 1 ∨ y6 = 2 := by omega
          · clear g6 h6
            obtain ⟨u0, k0⟩ := B6.b0
            obtain ⟨u1, k1⟩ := B6.b1
            have kf := B6.fb
            have d0 := B6.x0
            have d1 := B6.x1
            obtain ⟨e0, e1⟩ := own2 k0 k1
            go_wp2_with fail
            refine bodyPost_ret (v := .agg #[.int .i64 (x1), .int .i64 (x1)]) (by simp [results, Try.results50, go_sem, e0, e1]) rfl (B6.done ⟨by omega, by omega⟩ ⟨by omega, by omega⟩ (by omega))
          · go_wp2_with fail
            refine (rawS R a m c z _ _ h6 (by omega)).mono ?_
            rintro e w7 ⟨v7, p7, hv7, hv7', rfl, hp7, h7, g7⟩
            have B7 := B6.next h7 g7
            clear B6 g6 h6 g7 h7
            have B8 := (B7.put v7).1
            have y0 := B7.x0
            have y1 := B7.x1
            have yf := B7.fx
            obtain ⟨u0, k0⟩ := B8.b0
            obtain ⟨u1, k1⟩ := B8.b1
            have kf := B8.fb
            have d0 := B8.x0
            have d1 := B8.x1
            obtain ⟨e0, e1⟩ := own2 k0 k1
            go_wp2_with fail
            refine bodyPost_ret (v := .agg #[.int .i64 (v7), .int .i64 (x1)]) (by simp [results, Try.results50, go_sem, e0, e1]) rfl (B8.done ⟨by omega, by omega⟩ ⟨by omega, by omega⟩ (by omega))
          · go_wp2_with fail
            refine (rawS R a m c z _ _ h6 (by omega)).mono ?_
            rintro e w7 ⟨v7, p7, hv7, hv7', rfl, hp7, h7, g7⟩
            have B7 := B6.next h7 g7
            clear B6 g6 h6 g7 h7
            have B8 := (B7.put v7).2
            have y0 := B7.x0
            have y1 := B7.x1
            have yf := B7.fx
            obtain ⟨u0, k0⟩ := B8.b0
            obtain ⟨u1, k1⟩ := B8.b1
            have kf := B8.fb
            have d0 := B8.x0
            have d1 := B8.x1
            obtain ⟨e0, e1⟩ := own2 k0 k1
            go_wp2_with fail
            refine bodyPost_ret (v := .agg #[.int .i64 (x1), .int .i64 (v7)]) (by simp [results, Try.results50, go_sem, e0, e1]) rfl (B8.done ⟨by omega, by omega⟩ ⟨by omega, by omega⟩ (by omega))
      · have m1 : x2 < x1 := by omega
        have B3 : Bx w R a m c z (p2 + 1) w3.heap.size (x2) (x1) (w3.alloc (.cells #[.int .i64 (x2), .int .i64 (x1)] 25)) := Bx.new h3 g03 hR (hbox w3 (by assumption))
        go_wp2_with fail
        refine (oddU R a m c z (p2 + 1) n _ B3.rd (by omega) hn).mono ?_
        rintro e w5 ⟨o, p5, rfl, hp5, h5, g5⟩
        have B5 := B3.next h5 g5
        clear B3
        cases o
        · clear g5 h5
          obtain ⟨u0, k0⟩ := B5.b0
          obtain ⟨u1, k1⟩ := B5.b1
          have kf := B5.fb
          have d0 := B5.x0
          have d1 := B5.x1
          obtain ⟨e0, e1⟩ := own2 k0 k1
          go_wp2_with fail
          refine bodyPost_ret (v := .agg #[.int .i64 (x2), .int .i64 (x1)]) (by simp [results, Try.results50, go_sem, e0, e1]) rfl (B5.done ⟨by omega, by omega⟩ ⟨by omega, by omega⟩ (by omega))
        · go_wp2_with fail
          refine (pick R a m c z _ 3 _ h5 (by omega) (by omega) (by omega)).mono ?_
          rintro e w6 ⟨y6, hy6, hy6', rfl, h6, g6⟩
          have B6 := B5.next h6 g6
          clear B5 g5 h5
          obtain rfl | rfl | rfl : y6 = 0 ∨ y6 = 1 ∨ y6 = 2 := by omega
          · clear g6 h6
            obtain ⟨u0, k0⟩ := B6.b0
            obtain ⟨u1, k1⟩ := B6.b1
            have kf := B6.fb
            have d0 := B6.x0
            have d1 := B6.x1
            obtain ⟨e0, e1⟩ := own2 k0 k1
            go_wp2_with fail
            refine bodyPost_ret (v := .agg #[.int .i64 (x1), .int .i64 (x2)]) (by simp [results, Try.results50, go_sem, e0, e1]) rfl (B6.done ⟨by omega, by omega⟩ ⟨by omega, by omega⟩ (by omega))
          · go_wp2_with fail
            refine (rawS R a m c z _ _ h6 (by omega)).mono ?_
            rintro e w7 ⟨v7, p7, hv7, hv7', rfl, hp7, h7, g7⟩
            have B7 := B6.next h7 g7
            clear B6 g6 h6 g7 h7
            have B8 := (B7.put v7).1
            have y0 := B7.x0
            have y1 := B7.x1
            have yf := B7.fx
            obtain ⟨u0, k0⟩ := B8.b0
            obtain ⟨u1, k1⟩ := B8.b1
            have kf := B8.fb
            have d0 := B8.x0
            have d1 := B8.x1
            obtain ⟨e0, e1⟩ := own2 k0 k1
            go_wp2_with fail
            refine bodyPost_ret (v := .agg #[.int .i64 (v7), .int .i64 (x1)]) (by simp [results, Try.results50, go_sem, e0, e1]) rfl (B8.done ⟨by omega, by omega⟩ ⟨by omega, by omega⟩ (by omega))
          · go_wp2_with fail
            refine (rawS R a m c z _ _ h6 (by omega)).mono ?_
            rintro e w7 ⟨v7, p7, hv7, hv7', rfl, hp7, h7, g7⟩
            have B7 := B6.next h7 g7
            clear B6 g6 h6 g7 h7
            have B8 := (B7.put v7).2
            have y0 := B7.x0
            have y1 := B7.x1
            have yf := B7.fx
            obtain ⟨u0, k0⟩ := B8.b0
            obtain ⟨u1, k1⟩ := B8.b1
            have kf := B8.fb
            have d0 := B8.x0
            have d1 := B8.x1
            obtain ⟨e0, e1⟩ := own2 k0 k1
            go_wp2_with fail
            refine bodyPost_ret (v := .agg #[.int .i64 (x2), .int .i64 (v7)]) (by simp [results, Try.results50, go_sem, e0, e1]) rfl (B8.done ⟨by omega, by omega⟩ ⟨by omega, by omega⟩ (by omega))
end Go.Proofs.Ytiehokibfdaleaa
