/- What the drawing of a number of bounds, and of bounds and a number, answers over a reader. -/
import Derived.Test.YtiehokibfdaleaaDrawSt
namespace Go.Proofs.Ytiehokibfdaleaa
open Go.ChangeShapes Go.WideShapes Go.ChangeAt Go.RowKit

set_option maxRecDepth 10000 in
set_option maxHeartbeats 8000000 in
theorem ofD (R : Nat) (a : Option Addr) (m c : Nat) (z : Nat → Int) (q : Nat) (lo hi : Int) (w : World) (h : Rd w R a m c z q) (hq : q < 500000) (h1 : -32768 ≤ lo) (h2 : lo ≤ hi) (h3 : hi ≤ 32767) :
    Calls Try.prog 51 #[.pointer (some ⟨R, 0, none⟩), .agg #[.int .i64 lo, .int .i64 hi]] w fun e w' => ∃ n p', lo ≤ n ∧ n ≤ hi ∧ e = .returned (.int .i64 n) ∧ p' ≤ q + 20 ∧ Rd w' R a m c z p' ∧ w.grownBy w' (some R) := by
  have hRs := h.size
  have D0 : Dr w R a m c z q [⟨w.heap.size, 0, IsV (.int .i64 lo)⟩, ⟨w.heap.size, 1, IsV (.int .i64 hi)⟩] (w.alloc (.cells #[.int .i64 lo, .int .i64 hi] 25)) := Dr.new ⟨⟨q, Nat.le_refl _, h⟩, grown_refl _ _, Fs.nil _ _ _⟩ rfl rfl
  have mA : (⟨w.heap.size, 0, IsV (.int .i64 lo)⟩ : Sp) ∈ [(⟨w.heap.size, 0, IsV (.int .i64 lo)⟩ : Sp), ⟨w.heap.size, 1, IsV (.int .i64 hi)⟩] := by simp
  have mB : (⟨w.heap.size, 1, IsV (.int .i64 hi)⟩ : Sp) ∈ [(⟨w.heap.size, 0, IsV (.int .i64 lo)⟩ : Sp), ⟨w.heap.size, 1, IsV (.int .i64 hi)⟩] := by simp
  go_enter Try.func51, Try.ntmps51
  go_wp2_with fail
  obtain ⟨p0, hp0, hr0⟩ := D0.rd
  refine (pick R a m c z p0 4 _ hr0 (by omega) (by omega) (by omega)).mono ?_
  rintro e w4 ⟨y4, hy4, hy4', rfl, h4, g4⟩
  have D4 : Dr w R a m c z (q + 1) _ w4 := D0.next h4 g4 (by omega)
  clear D0 h4 g4 hr0
  obtain ⟨v0, d0, rfl⟩ := D4.has mA
  obtain ⟨v1, d1, rfl⟩ := D4.has mB
  dsimp only at d0 d1
  have hS0 : DS w R a m c z (q + 1) 1 13 _ (fun _ => false) w4.drew := DS.start D4.drew
  have fin : ∀ n, lo ≤ n → n ≤ hi → ∃ n' p', lo ≤ n' ∧ n' ≤ hi ∧ Ending.returned (.int .i64 n) = .returned (.int .i64 n') ∧ p' ≤ q + 20 ∧ Rd w4 R a m c z p' ∧ w.grownBy w4 (some R) := by
    intro n k1 k2
    obtain ⟨p, hp, hr⟩ := D4.rd
    exact ⟨n, p, k1, k2, rfl, by omega, hr, D4.grown⟩
  obtain rfl | rfl | rfl | rfl : y4 = 0 ∨ y4 = 1 ∨ y4 = 2 ∨ y4 = 3 := by omega
  · go_wp2_with fail
    go_ret
    exact fin lo (by omega) (by omega)
  · go_wp2_with fail
    go_ret
    exact fin hi (by omega) (by omega)
  · by_cases e0 : lo ≤ 0 ∧ 0 ≤ hi
    · obtain ⟨e1, e2⟩ := e0
      go_wp2_with fail
      go_ret
      exact fin 0 (by omega) (by omega)
    · by_cases e1 : lo ≤ 0
      · have e2 : ¬ (0 ≤ hi) := fun k => e0 ⟨e1, k⟩
        go_wp2_with fail
        rename_i hK
        refine region_inv3 [(0, 31), (1, 32), (2, 33), (3, 34), (4, 35), (5, 36), (6, 37), (7, 38), (8, 39), (9, 40), (10, 41), (11, 42), (12, 4)]
          (fun j v _ => match j with
            | 0 => Is (.pointer (some ⟨w.heap.size, 0, none⟩)) v
            | 1 => Is (.int .i64 (lo)) v
            | 2 => Is (.pointer (some ⟨R, 0, none⟩)) v
            | 3 => Rng (0) (255) v
            | 4 => Rng (0) (65280) v
            | 5 => Is (.pointer (some ⟨R, 0, none⟩)) v
            | 6 => Rng (0) (255) v
            | 7 => Rng (0) (65535) v
            | 8 => Is (.int .i64 (hi - lo)) v
            | 9 => Is (.int .i64 (hi - lo + 1)) v
            | 10 => Rng (0) (hi - lo) v
            | 11 => Rng (lo) (hi) v
            | 12 => Rng (lo) (hi) v
            | _ => True)
          (DS w R a m c z (q + 1) 1 13 [⟨w.heap.size, 0, IsV (.int .i64 lo)⟩, ⟨w.heap.size, 1, IsV (.int .i64 hi)⟩]) TT
          (by kernel_rfl) (by kernel_rfl) (by kernel_rfl) (by kernel_rfl) (by kernel_rfl) rfl hS0 (fun i j v W W' _ h _ => h) ?_ ?_
        · intro i L vals W hi' hφ hS hL hd
          have hi2 : i < 13 := hi'
          have hbd := DS.bd (K := 1) (n := 13) (L := L)
          obtain ⟨p, hp, hr⟩ := hS.rd
          have hrs := hr.size
          rcases (show i = 0 ∨ i = 1 ∨ i = 2 ∨ i = 3 ∨ i = 4 ∨ i = 5 ∨ i = 6 ∨ i = 7 ∨ i = 8 ∨ i = 9 ∨ i = 10 ∨ i = 11 ∨ i = 12 by omega) with rfl | rfl | rfl | rfl | rfl | rfl | rfl | rfl | rfl | rfl | rfl | rfl | rfl
          · refine wpAt_of rfl rfl ?_
            simp only [frOf, Act.put]
            go_wp2_with fail
            first | exact ⟨trivial, rfl, trivial, DS.pure hS hL (by decide)⟩ | exact ⟨rfl, trivial, DS.pure hS hL (by decide)⟩
          · have k0 : vals 0 = .pointer (some ⟨w.heap.size, 0, none⟩) := hφ 0 (hd 0 (by decide))
            obtain ⟨v0, d0, rfl⟩ := Dr.has hS mA
            refine wpAt_of rfl rfl ?_
            simp only [frOf, Act.put]
            go_wp2_with fail
            first | exact ⟨trivial, rfl, trivial, DS.pure hS hL (by decide)⟩ | exact ⟨rfl, trivial, DS.pure hS hL (by decide)⟩
          · refine wpAt_of rfl rfl ?_
            simp only [frOf, Act.put]
            go_wp2_with fail
            first | exact ⟨trivial, rfl, trivial, DS.pure hS hL (by decide)⟩ | exact ⟨rfl, trivial, DS.pure hS hL (by decide)⟩
          · have k2 : vals 2 = .pointer (some ⟨R, 0, none⟩) := hφ 2 (hd 2 (by decide))
            refine wpAt_of rfl rfl ?_
            simp only [frOf, Act.put]
            go_wp2_with fail
            refine (pick R a m c z p 256 _ hr (by omega) (by omega) (by omega)).mono ?_
            rintro e W' ⟨x, hx1, hx2, rfl, hr', g⟩
            go_wp2_with fail
            first | exact ⟨trivial, ⟨x, hx1, by omega, rfl⟩, trivial, DS.call hS hL (by decide) hr' g (by omega)⟩ | exact ⟨⟨x, hx1, by omega, rfl⟩, trivial, DS.call hS hL (by decide) hr' g (by omega)⟩
          · obtain ⟨n3, l3, u3, k3⟩ : Rng (0) (255) (vals 3) := hφ 3 (hd 3 (by decide))
            refine wpAt_of rfl rfl ?_
            simp only [frOf, Act.put]
            go_wp2_with fail
            first | exact ⟨trivial, ⟨_, by first | assumption | omega, by first | assumption | omega, rfl⟩, trivial, DS.pure hS hL (by decide)⟩ | exact ⟨⟨_, by first | assumption | omega, by first | assumption | omega, rfl⟩, trivial, DS.pure hS hL (by decide)⟩
          · refine wpAt_of rfl rfl ?_
            simp only [frOf, Act.put]
            go_wp2_with fail
            first | exact ⟨trivial, rfl, trivial, DS.pure hS hL (by decide)⟩ | exact ⟨rfl, trivial, DS.pure hS hL (by decide)⟩
          · have k5 : vals 5 = .pointer (some ⟨R, 0, none⟩) := hφ 5 (hd 5 (by decide))
            refine wpAt_of rfl rfl ?_
            simp only [frOf, Act.put]
            go_wp2_with fail
            refine (pick R a m c z p 256 _ hr (by omega) (by omega) (by omega)).mono ?_
            rintro e W' ⟨x, hx1, hx2, rfl, hr', g⟩
            go_wp2_with fail
            first | exact ⟨trivial, ⟨x, hx1, by omega, rfl⟩, trivial, DS.call hS hL (by decide) hr' g (by omega)⟩ | exact ⟨⟨x, hx1, by omega, rfl⟩, trivial, DS.call hS hL (by decide) hr' g (by omega)⟩
          · obtain ⟨n4, l4, u4, k4⟩ : Rng (0) (65280) (vals 4) := hφ 4 (hd 4 (by decide))
            obtain ⟨n6, l6, u6, k6⟩ : Rng (0) (255) (vals 6) := hφ 6 (hd 6 (by decide))
            refine wpAt_of rfl rfl ?_
            simp only [frOf, Act.put]
            go_wp2_with fail
            first | exact ⟨trivial, ⟨_, by first | assumption | omega, by first | assumption | omega, rfl⟩, trivial, DS.pure hS hL (by decide)⟩ | exact ⟨⟨_, by first | assumption | omega, by first | assumption | omega, rfl⟩, trivial, DS.pure hS hL (by decide)⟩
          · refine wpAt_of rfl rfl ?_
            simp only [frOf, Act.put]
            go_wp2_with fail
            first | exact ⟨trivial, rfl, trivial, DS.pure hS hL (by decide)⟩ | exact ⟨rfl, trivial, DS.pure hS hL (by decide)⟩
          · have k8 : vals 8 = .int .i64 (hi - lo) := hφ 8 (hd 8 (by decide))
            refine wpAt_of rfl rfl ?_
            simp only [frOf, Act.put]
            go_wp2_with fail
            first | exact ⟨trivial, rfl, trivial, DS.pure hS hL (by decide)⟩ | exact ⟨rfl, trivial, DS.pure hS hL (by decide)⟩
          · obtain ⟨n7, l7, u7, k7⟩ : Rng (0) (65535) (vals 7) := hφ 7 (hd 7 (by decide))
            have k9 : vals 9 = .int .i64 (hi - lo + 1) := hφ 9 (hd 9 (by decide))
            have e2 : hi - lo + 1 ≠ 0 := by omega
            have q1 := Int.emod_nonneg n7 e2
            have q2 := Int.emod_lt_of_pos n7 (show 0 < hi - lo + 1 by omega)
            refine wpAt_of rfl rfl ?_
            simp only [frOf, Act.put]
            go_wp2_with fail
            first | exact ⟨trivial, ⟨_, q1, by omega, rfl⟩, trivial, DS.pure hS hL (by decide)⟩ | exact ⟨⟨_, q1, by omega, rfl⟩, trivial, DS.pure hS hL (by decide)⟩
          · have k1 : vals 1 = .int .i64 (lo) := hφ 1 (hd 1 (by decide))
            obtain ⟨n10, l10, u10, k10⟩ : Rng (0) (hi - lo) (vals 10) := hφ 10 (hd 10 (by decide))
            refine wpAt_of rfl rfl ?_
            simp only [frOf, Act.put]
            go_wp2_with fail
            first | exact ⟨trivial, ⟨_, by first | assumption | omega, by first | assumption | omega, rfl⟩, trivial, DS.pure hS hL (by decide)⟩ | exact ⟨⟨_, by first | assumption | omega, by first | assumption | omega, rfl⟩, trivial, DS.pure hS hL (by decide)⟩
          · obtain ⟨n11, l11, u11, k11⟩ : Rng (lo) (hi) (vals 11) := hφ 11 (hd 11 (by decide))
            refine wpAt_of rfl rfl ?_
            simp only [frOf, Act.put]
            go_wp2_with fail
            first | exact ⟨trivial, ⟨_, by first | assumption | omega, by first | assumption | omega, rfl⟩, trivial, DS.pure hS hL (by decide)⟩ | exact ⟨⟨_, by first | assumption | omega, by first | assumption | omega, rfl⟩, trivial, DS.pure hS hL (by decide)⟩
        · intro L vals W hall hφ hS'
          have hS := hS'.done
          clear hS'
          have k0 : vals 0 = .pointer (some ⟨w.heap.size, 0, none⟩) := hφ 0 (by decide)
          have k1 : vals 1 = .int .i64 (lo) := hφ 1 (by decide)
          have k2 : vals 2 = .pointer (some ⟨R, 0, none⟩) := hφ 2 (by decide)
          obtain ⟨n3, l3, u3, k3⟩ : Rng (0) (255) (vals 3) := hφ 3 (by decide)
          obtain ⟨n4, l4, u4, k4⟩ : Rng (0) (65280) (vals 4) := hφ 4 (by decide)
          have k5 : vals 5 = .pointer (some ⟨R, 0, none⟩) := hφ 5 (by decide)
          obtain ⟨n6, l6, u6, k6⟩ : Rng (0) (255) (vals 6) := hφ 6 (by decide)
          obtain ⟨n7, l7, u7, k7⟩ : Rng (0) (65535) (vals 7) := hφ 7 (by decide)
          have k8 : vals 8 = .int .i64 (hi - lo) := hφ 8 (by decide)
          have k9 : vals 9 = .int .i64 (hi - lo + 1) := hφ 9 (by decide)
          obtain ⟨n10, l10, u10, k10⟩ : Rng (0) (hi - lo) (vals 10) := hφ 10 (by decide)
          obtain ⟨n11, l11, u11, k11⟩ : Rng (lo) (hi) (vals 11) := hφ 11 (by decide)
          obtain ⟨n12, l12, u12, k12⟩ : Rng (lo) (hi) (vals 12) := hφ 12 (by decide)
          simp only [frOf, Act.put, List.setIfInBounds_toArray, List.set_cons_succ, List.set_cons_zero, k0, k1, k2, k3, k4, k5, k6, k7, k8, k9, k10, k11, k12]
          clear k0 k1 k2 k3 k4 k5 k6 k7 k8 k9 k10 k11 k12 hall hφ hS0
          refine hK _ _ ?_
          go_wp2_with fail
          go_ret
          obtain ⟨p, hp, hr⟩ := hS.rd
          exact ⟨_, p, by assumption, by assumption, rfl, by omega, hr, hS.grown⟩
      · go_wp2_with fail
        refine region_inv3 [(0, 31), (1, 32), (2, 33), (3, 34), (4, 35), (5, 36), (6, 37), (7, 38), (8, 39), (9, 40), (10, 41), (11, 42), (12, 4)]
          (fun j v _ => match j with
            | 0 => Is (.pointer (some ⟨w.heap.size, 0, none⟩)) v
            | 1 => Is (.int .i64 (lo)) v
            | 2 => Is (.pointer (some ⟨R, 0, none⟩)) v
            | 3 => Rng (0) (255) v
            | 4 => Rng (0) (65280) v
            | 5 => Is (.pointer (some ⟨R, 0, none⟩)) v
            | 6 => Rng (0) (255) v
            | 7 => Rng (0) (65535) v
            | 8 => Is (.int .i64 (hi - lo)) v
            | 9 => Is (.int .i64 (hi - lo + 1)) v
            | 10 => Rng (0) (hi - lo) v
            | 11 => Rng (lo) (hi) v
            | 12 => Rng (lo) (hi) v
            | _ => True)
          (DS w R a m c z (q + 1) 1 13 [⟨w.heap.size, 0, IsV (.int .i64 lo)⟩, ⟨w.heap.size, 1, IsV (.int .i64 hi)⟩]) TT
          (by kernel_rfl) (by kernel_rfl) (by kernel_rfl) (by kernel_rfl) (by kernel_rfl) rfl hS0 (fun i j v W W' _ h _ => h) ?_ ?_
        · intro i L vals W hi' hφ hS hL hd
          have hi2 : i < 13 := hi'
          have hbd := DS.bd (K := 1) (n := 13) (L := L)
          obtain ⟨p, hp, hr⟩ := hS.rd
          have hrs := hr.size
          rcases (show i = 0 ∨ i = 1 ∨ i = 2 ∨ i = 3 ∨ i = 4 ∨ i = 5 ∨ i = 6 ∨ i = 7 ∨ i = 8 ∨ i = 9 ∨ i = 10 ∨ i = 11 ∨ i = 12 by omega) with rfl | rfl | rfl | rfl | rfl | rfl | rfl | rfl | rfl | rfl | rfl | rfl | rfl
          · refine wpAt_of rfl rfl ?_
            simp only [frOf, Act.put]
            go_wp2_with fail
            first | exact ⟨trivial, rfl, trivial, DS.pure hS hL (by decide)⟩ | exact ⟨rfl, trivial, DS.pure hS hL (by decide)⟩
          · have k0 : vals 0 = .pointer (some ⟨w.heap.size, 0, none⟩) := hφ 0 (hd 0 (by decide))
            obtain ⟨v0, d0, rfl⟩ := Dr.has hS mA
            refine wpAt_of rfl rfl ?_
            simp only [frOf, Act.put]
            go_wp2_with fail
            first | exact ⟨trivial, rfl, trivial, DS.pure hS hL (by decide)⟩ | exact ⟨rfl, trivial, DS.pure hS hL (by decide)⟩
          · refine wpAt_of rfl rfl ?_
            simp only [frOf, Act.put]
            go_wp2_with fail
            first | exact ⟨trivial, rfl, trivial, DS.pure hS hL (by decide)⟩ | exact ⟨rfl, trivial, DS.pure hS hL (by decide)⟩
          · have k2 : vals 2 = .pointer (some ⟨R, 0, none⟩) := hφ 2 (hd 2 (by decide))
            refine wpAt_of rfl rfl ?_
            simp only [frOf, Act.put]
            go_wp2_with fail
            refine (pick R a m c z p 256 _ hr (by omega) (by omega) (by omega)).mono ?_
            rintro e W' ⟨x, hx1, hx2, rfl, hr', g⟩
            go_wp2_with fail
            first | exact ⟨trivial, ⟨x, hx1, by omega, rfl⟩, trivial, DS.call hS hL (by decide) hr' g (by omega)⟩ | exact ⟨⟨x, hx1, by omega, rfl⟩, trivial, DS.call hS hL (by decide) hr' g (by omega)⟩
          · obtain ⟨n3, l3, u3, k3⟩ : Rng (0) (255) (vals 3) := hφ 3 (hd 3 (by decide))
            refine wpAt_of rfl rfl ?_
            simp only [frOf, Act.put]
            go_wp2_with fail
            first | exact ⟨trivial, ⟨_, by first | assumption | omega, by first | assumption | omega, rfl⟩, trivial, DS.pure hS hL (by decide)⟩ | exact ⟨⟨_, by first | assumption | omega, by first | assumption | omega, rfl⟩, trivial, DS.pure hS hL (by decide)⟩
          · refine wpAt_of rfl rfl ?_
            simp only [frOf, Act.put]
            go_wp2_with fail
            first | exact ⟨trivial, rfl, trivial, DS.pure hS hL (by decide)⟩ | exact ⟨rfl, trivial, DS.pure hS hL (by decide)⟩
          · have k5 : vals 5 = .pointer (some ⟨R, 0, none⟩) := hφ 5 (hd 5 (by decide))
            refine wpAt_of rfl rfl ?_
            simp only [frOf, Act.put]
            go_wp2_with fail
            refine (pick R a m c z p 256 _ hr (by omega) (by omega) (by omega)).mono ?_
            rintro e W' ⟨x, hx1, hx2, rfl, hr', g⟩
            go_wp2_with fail
            first | exact ⟨trivial, ⟨x, hx1, by omega, rfl⟩, trivial, DS.call hS hL (by decide) hr' g (by omega)⟩ | exact ⟨⟨x, hx1, by omega, rfl⟩, trivial, DS.call hS hL (by decide) hr' g (by omega)⟩
          · obtain ⟨n4, l4, u4, k4⟩ : Rng (0) (65280) (vals 4) := hφ 4 (hd 4 (by decide))
            obtain ⟨n6, l6, u6, k6⟩ : Rng (0) (255) (vals 6) := hφ 6 (hd 6 (by decide))
            refine wpAt_of rfl rfl ?_
            simp only [frOf, Act.put]
            go_wp2_with fail
            first | exact ⟨trivial, ⟨_, by first | assumption | omega, by first | assumption | omega, rfl⟩, trivial, DS.pure hS hL (by decide)⟩ | exact ⟨⟨_, by first | assumption | omega, by first | assumption | omega, rfl⟩, trivial, DS.pure hS hL (by decide)⟩
          · refine wpAt_of rfl rfl ?_
            simp only [frOf, Act.put]
            go_wp2_with fail
            first | exact ⟨trivial, rfl, trivial, DS.pure hS hL (by decide)⟩ | exact ⟨rfl, trivial, DS.pure hS hL (by decide)⟩
          · have k8 : vals 8 = .int .i64 (hi - lo) := hφ 8 (hd 8 (by decide))
            refine wpAt_of rfl rfl ?_
            simp only [frOf, Act.put]
            go_wp2_with fail
            first | exact ⟨trivial, rfl, trivial, DS.pure hS hL (by decide)⟩ | exact ⟨rfl, trivial, DS.pure hS hL (by decide)⟩
          · obtain ⟨n7, l7, u7, k7⟩ : Rng (0) (65535) (vals 7) := hφ 7 (hd 7 (by decide))
            have k9 : vals 9 = .int .i64 (hi - lo + 1) := hφ 9 (hd 9 (by decide))
            have e2 : hi - lo + 1 ≠ 0 := by omega
            have q1 := Int.emod_nonneg n7 e2
            have q2 := Int.emod_lt_of_pos n7 (show 0 < hi - lo + 1 by omega)
            refine wpAt_of rfl rfl ?_
            simp only [frOf, Act.put]
            go_wp2_with fail
            first | exact ⟨trivial, ⟨_, q1, by omega, rfl⟩, trivial, DS.pure hS hL (by decide)⟩ | exact ⟨⟨_, q1, by omega, rfl⟩, trivial, DS.pure hS hL (by decide)⟩
          · have k1 : vals 1 = .int .i64 (lo) := hφ 1 (hd 1 (by decide))
            obtain ⟨n10, l10, u10, k10⟩ : Rng (0) (hi - lo) (vals 10) := hφ 10 (hd 10 (by decide))
            refine wpAt_of rfl rfl ?_
            simp only [frOf, Act.put]
            go_wp2_with fail
            first | exact ⟨trivial, ⟨_, by first | assumption | omega, by first | assumption | omega, rfl⟩, trivial, DS.pure hS hL (by decide)⟩ | exact ⟨⟨_, by first | assumption | omega, by first | assumption | omega, rfl⟩, trivial, DS.pure hS hL (by decide)⟩
          · obtain ⟨n11, l11, u11, k11⟩ : Rng (lo) (hi) (vals 11) := hφ 11 (hd 11 (by decide))
            refine wpAt_of rfl rfl ?_
            simp only [frOf, Act.put]
            go_wp2_with fail
            first | exact ⟨trivial, ⟨_, by first | assumption | omega, by first | assumption | omega, rfl⟩, trivial, DS.pure hS hL (by decide)⟩ | exact ⟨⟨_, by first | assumption | omega, by first | assumption | omega, rfl⟩, trivial, DS.pure hS hL (by decide)⟩
        · intro L vals W hall hφ hS'
          have hS := hS'.done
          clear hS'
          have k0 : vals 0 = .pointer (some ⟨w.heap.size, 0, none⟩) := hφ 0 (by decide)
          have k1 : vals 1 = .int .i64 (lo) := hφ 1 (by decide)
          have k2 : vals 2 = .pointer (some ⟨R, 0, none⟩) := hφ 2 (by decide)
          obtain ⟨n3, l3, u3, k3⟩ : Rng (0) (255) (vals 3) := hφ 3 (by decide)
          obtain ⟨n4, l4, u4, k4⟩ : Rng (0) (65280) (vals 4) := hφ 4 (by decide)
          have k5 : vals 5 = .pointer (some ⟨R, 0, none⟩) := hφ 5 (by decide)
          obtain ⟨n6, l6, u6, k6⟩ : Rng (0) (255) (vals 6) := hφ 6 (by decide)
          obtain ⟨n7, l7, u7, k7⟩ : Rng (0) (65535) (vals 7) := hφ 7 (by decide)
          have k8 : vals 8 = .int .i64 (hi - lo) := hφ 8 (by decide)
          have k9 : vals 9 = .int .i64 (hi - lo + 1) := hφ 9 (by decide)
          obtain ⟨n10, l10, u10, k10⟩ : Rng (0) (hi - lo) (vals 10) := hφ 10 (by decide)
          obtain ⟨n11, l11, u11, k11⟩ : Rng (lo) (hi) (vals 11) := hφ 11 (by decide)
          obtain ⟨n12, l12, u12, k12⟩ : Rng (lo) (hi) (vals 12) := hφ 12 (by decide)
          simp only [frOf, Act.put, List.setIfInBounds_toArray, List.set_cons_succ, List.set_cons_zero, k0, k1, k2, k3, k4, k5, k6, k7, k8, k9, k10, k11, k12]
          clear k0 k1 k2 k3 k4 k5 k6 k7 k8 k9 k10 k11 k12 hall hφ hS0
          go_wp2_with fail
          go_ret
          obtain ⟨p, hp, hr⟩ := hS.rd
          exact ⟨_, p, by assumption, by assumption, rfl, by omega, hr, hS.grown⟩
  · go_wp2_with fail
    refine region_inv3 [(0, 31), (1, 32), (2, 33), (3, 34), (4, 35), (5, 36), (6, 37), (7, 38), (8, 39), (9, 40), (10, 41), (11, 42), (12, 4)]
      (fun j v _ => match j with
        | 0 => Is (.pointer (some ⟨w.heap.size, 0, none⟩)) v
        | 1 => Is (.int .i64 (lo)) v
        | 2 => Is (.pointer (some ⟨R, 0, none⟩)) v
        | 3 => Rng (0) (255) v
        | 4 => Rng (0) (65280) v
        | 5 => Is (.pointer (some ⟨R, 0, none⟩)) v
        | 6 => Rng (0) (255) v
        | 7 => Rng (0) (65535) v
        | 8 => Is (.int .i64 (hi - lo)) v
        | 9 => Is (.int .i64 (hi - lo + 1)) v
        | 10 => Rng (0) (hi - lo) v
        | 11 => Rng (lo) (hi) v
        | 12 => Rng (lo) (hi) v
        | _ => True)
      (DS w R a m c z (q + 1) 1 13 [⟨w.heap.size, 0, IsV (.int .i64 lo)⟩, ⟨w.heap.size, 1, IsV (.int .i64 hi)⟩]) TT
      (by kernel_rfl) (by kernel_rfl) (by kernel_rfl) (by kernel_rfl) (by kernel_rfl) rfl hS0 (fun i j v W W' _ h _ => h) ?_ ?_
    · intro i L vals W hi' hφ hS hL hd
      have hi2 : i < 13 := hi'
      have hbd := DS.bd (K := 1) (n := 13) (L := L)
      obtain ⟨p, hp, hr⟩ := hS.rd
      have hrs := hr.size
      rcases (show i = 0 ∨ i = 1 ∨ i = 2 ∨ i = 3 ∨ i = 4 ∨ i = 5 ∨ i = 6 ∨ i = 7 ∨ i = 8 ∨ i = 9 ∨ i = 10 ∨ i = 11 ∨ i = 12 by omega) with rfl | rfl | rfl | rfl | rfl | rfl | rfl | rfl | rfl | rfl | rfl | rfl | rfl
      · refine wpAt_of rfl rfl ?_
        simp only [frOf, Act.put]
        go_wp2_with fail
        first | exact ⟨trivial, rfl, trivial, DS.pure hS hL (by decide)⟩ | exact ⟨rfl, trivial, DS.pure hS hL (by decide)⟩
      · have k0 : vals 0 = .pointer (some ⟨w.heap.size, 0, none⟩) := hφ 0 (hd 0 (by decide))
        obtain ⟨v0, d0, rfl⟩ := Dr.has hS mA
        refine wpAt_of rfl rfl ?_
        simp only [frOf, Act.put]
        go_wp2_with fail
        first | exact ⟨trivial, rfl, trivial, DS.pure hS hL (by decide)⟩ | exact ⟨rfl, trivial, DS.pure hS hL (by decide)⟩
      · refine wpAt_of rfl rfl ?_
        simp only [frOf, Act.put]
        go_wp2_with fail
        first | exact ⟨trivial, rfl, trivial, DS.pure hS hL (by decide)⟩ | exact ⟨rfl, trivial, DS.pure hS hL (by decide)⟩
      · have k2 : vals 2 = .pointer (some ⟨R, 0, none⟩) := hφ 2 (hd 2 (by decide))
        refine wpAt_of rfl rfl ?_
        simp only [frOf, Act.put]
        go_wp2_with fail
        refine (pick R a m c z p 256 _ hr (by omega) (by omega) (by omega)).mono ?_
        rintro e W' ⟨x, hx1, hx2, rfl, hr', g⟩
        go_wp2_with fail
        first | exact ⟨trivial, ⟨x, hx1, by omega, rfl⟩, trivial, DS.call hS hL (by decide) hr' g (by omega)⟩ | exact ⟨⟨x, hx1, by omega, rfl⟩, trivial, DS.call hS hL (by decide) hr' g (by omega)⟩
      · obtain ⟨n3, l3, u3, k3⟩ : Rng (0) (255) (vals 3) := hφ 3 (hd 3 (by decide))
        refine wpAt_of rfl rfl ?_
        simp only [frOf, Act.put]
        go_wp2_with fail
        first | exact ⟨trivial, ⟨_, by first | assumption | omega, by first | assumption | omega, rfl⟩, trivial, DS.pure hS hL (by decide)⟩ | exact ⟨⟨_, by first | assumption | omega, by first | assumption | omega, rfl⟩, trivial, DS.pure hS hL (by decide)⟩
      · refine wpAt_of rfl rfl ?_
        simp only [frOf, Act.put]
        go_wp2_with fail
        first | exact ⟨trivial, rfl, trivial, DS.pure hS hL (by decide)⟩ | exact ⟨rfl, trivial, DS.pure hS hL (by decide)⟩
      · have k5 : vals 5 = .pointer (some ⟨R, 0, none⟩) := hφ 5 (hd 5 (by decide))
        refine wpAt_of rfl rfl ?_
        simp only [frOf, Act.put]
        go_wp2_with fail
        refine (pick R a m c z p 256 _ hr (by omega) (by omega) (by omega)).mono ?_
        rintro e W' ⟨x, hx1, hx2, rfl, hr', g⟩
        go_wp2_with fail
        first | exact ⟨trivial, ⟨x, hx1, by omega, rfl⟩, trivial, DS.call hS hL (by decide) hr' g (by omega)⟩ | exact ⟨⟨x, hx1, by omega, rfl⟩, trivial, DS.call hS hL (by decide) hr' g (by omega)⟩
      · obtain ⟨n4, l4, u4, k4⟩ : Rng (0) (65280) (vals 4) := hφ 4 (hd 4 (by decide))
        obtain ⟨n6, l6, u6, k6⟩ : Rng (0) (255) (vals 6) := hφ 6 (hd 6 (by decide))
        refine wpAt_of rfl rfl ?_
        simp only [frOf, Act.put]
        go_wp2_with fail
        first | exact ⟨trivial, ⟨_, by first | assumption | omega, by first | assumption | omega, rfl⟩, trivial, DS.pure hS hL (by decide)⟩ | exact ⟨⟨_, by first | assumption | omega, by first | assumption | omega, rfl⟩, trivial, DS.pure hS hL (by decide)⟩
      · refine wpAt_of rfl rfl ?_
        simp only [frOf, Act.put]
        go_wp2_with fail
        first | exact ⟨trivial, rfl, trivial, DS.pure hS hL (by decide)⟩ | exact ⟨rfl, trivial, DS.pure hS hL (by decide)⟩
      · have k8 : vals 8 = .int .i64 (hi - lo) := hφ 8 (hd 8 (by decide))
        refine wpAt_of rfl rfl ?_
        simp only [frOf, Act.put]
        go_wp2_with fail
        first | exact ⟨trivial, rfl, trivial, DS.pure hS hL (by decide)⟩ | exact ⟨rfl, trivial, DS.pure hS hL (by decide)⟩
      · obtain ⟨n7, l7, u7, k7⟩ : Rng (0) (65535) (vals 7) := hφ 7 (hd 7 (by decide))
        have k9 : vals 9 = .int .i64 (hi - lo + 1) := hφ 9 (hd 9 (by decide))
        have e2 : hi - lo + 1 ≠ 0 := by omega
        have q1 := Int.emod_nonneg n7 e2
        have q2 := Int.emod_lt_of_pos n7 (show 0 < hi - lo + 1 by omega)
        refine wpAt_of rfl rfl ?_
        simp only [frOf, Act.put]
        go_wp2_with fail
        first | exact ⟨trivial, ⟨_, q1, by omega, rfl⟩, trivial, DS.pure hS hL (by decide)⟩ | exact ⟨⟨_, q1, by omega, rfl⟩, trivial, DS.pure hS hL (by decide)⟩
      · have k1 : vals 1 = .int .i64 (lo) := hφ 1 (hd 1 (by decide))
        obtain ⟨n10, l10, u10, k10⟩ : Rng (0) (hi - lo) (vals 10) := hφ 10 (hd 10 (by decide))
        refine wpAt_of rfl rfl ?_
        simp only [frOf, Act.put]
        go_wp2_with fail
        first | exact ⟨trivial, ⟨_, by first | assumption | omega, by first | assumption | omega, rfl⟩, trivial, DS.pure hS hL (by decide)⟩ | exact ⟨⟨_, by first | assumption | omega, by first | assumption | omega, rfl⟩, trivial, DS.pure hS hL (by decide)⟩
      · obtain ⟨n11, l11, u11, k11⟩ : Rng (lo) (hi) (vals 11) := hφ 11 (hd 11 (by decide))
        refine wpAt_of rfl rfl ?_
        simp only [frOf, Act.put]
        go_wp2_with fail
        first | exact ⟨trivial, ⟨_, by first | assumption | omega, by first | assumption | omega, rfl⟩, trivial, DS.pure hS hL (by decide)⟩ | exact ⟨⟨_, by first | assumption | omega, by first | assumption | omega, rfl⟩, trivial, DS.pure hS hL (by decide)⟩
    · intro L vals W hall hφ hS'
      have hS := hS'.done
      clear hS'
      have k0 : vals 0 = .pointer (some ⟨w.heap.size, 0, none⟩) := hφ 0 (by decide)
      have k1 : vals 1 = .int .i64 (lo) := hφ 1 (by decide)
      have k2 : vals 2 = .pointer (some ⟨R, 0, none⟩) := hφ 2 (by decide)
      obtain ⟨n3, l3, u3, k3⟩ : Rng (0) (255) (vals 3) := hφ 3 (by decide)
      obtain ⟨n4, l4, u4, k4⟩ : Rng (0) (65280) (vals 4) := hφ 4 (by decide)
      have k5 : vals 5 = .pointer (some ⟨R, 0, none⟩) := hφ 5 (by decide)
      obtain ⟨n6, l6, u6, k6⟩ : Rng (0) (255) (vals 6) := hφ 6 (by decide)
      obtain ⟨n7, l7, u7, k7⟩ : Rng (0) (65535) (vals 7) := hφ 7 (by decide)
      have k8 : vals 8 = .int .i64 (hi - lo) := hφ 8 (by decide)
      have k9 : vals 9 = .int .i64 (hi - lo + 1) := hφ 9 (by decide)
      obtain ⟨n10, l10, u10, k10⟩ : Rng (0) (hi - lo) (vals 10) := hφ 10 (by decide)
      obtain ⟨n11, l11, u11, k11⟩ : Rng (lo) (hi) (vals 11) := hφ 11 (by decide)
      obtain ⟨n12, l12, u12, k12⟩ : Rng (lo) (hi) (vals 12) := hφ 12 (by decide)
      simp only [frOf, Act.put, List.setIfInBounds_toArray, List.set_cons_succ, List.set_cons_zero, k0, k1, k2, k3, k4, k5, k6, k7, k8, k9, k10, k11, k12]
      clear k0 k1 k2 k3 k4 k5 k6 k7 k8 k9 k10 k11 k12 hall hφ hS0
      go_wp2_with fail
      go_ret
      obtain ⟨p, hp, hr⟩ := hS.rd
      exact ⟨_, p, by assumption, by assumption, rfl, by omega, hr, hS.grown⟩
theorem old_of {w : World} {a : Option Addr} {len cap m : Nat} {z : Nat → Int} (h : Bytes w a len cap z) (hm : m ≤ len) : Old w a m := by
  rcases h with h0 | ⟨b, off, rfl, hb, _, _⟩
  · exact .inl (by omega)
  · exact .inr fun b' off' e => by injection e with e; injection e with e; omega
set_option maxHeartbeats 1000000 in
theorem openS2 (a : Option Addr) (len cap : Nat) (z : Nat → Int) (w : World) (hz : ∀ i, 0 ≤ z i ∧ z i ≤ 255) (hl : len ≤ 1048576) (h : Bytes w a len cap z) :
    Calls Try.prog 31 #[.slice a len cap] w fun e w' => ∃ m c, m ≤ len ∧ e = .returned (.pointer (some ⟨w.heap.size, 0, none⟩)) ∧ Rd w' w.heap.size a m c z 0 ∧ w.grownBy w' none := by
  by_cases h2 : len ≤ 2000
  · go_enter Try.func31, Try.ntmps31
    go_wp2_with fail
    go_ret
    exact ⟨len, cap, Nat.le_refl _, rfl, rd_new w a len cap len cap z hz h (Nat.le_refl _) h2, World.grownBy_alloc _ _ _⟩
  · have h' := h
    rcases h' with h0 | ⟨b, off, rfl, hb, hlc, hc⟩
    · omega
    have i1 : (2000 : Int) < (len : Int) := by omega
    have i2 : (2000 : Int) ≤ (cap : Int) := by omega
    go_enter Try.func31, Try.ntmps31
    go_wp2_with fail
    go_ret
    exact ⟨2000, cap, by omega, rfl, rd_new w _ len cap 2000 cap z hz h (by omega) (by omega), World.grownBy_alloc _ _ _⟩
/-- What is known where a reader was opened behind memory that was made: one block of two ints. -/
theorem dr_open {w w1 : World} {a : Option Addr} {m c : Nat} {z : Nat → Int} {x y : Int} {t : TypeId} (hx : I64 x) (hy : I64 y) (h1 : Rd w1 (w.alloc (.cells #[.int .i64 x, .int .i64 y] t)).heap.size a m c z 0) (g1 : (w.alloc (.cells #[.int .i64 x, .int .i64 y] t)).grownBy w1 none) : Dr w (w.heap.size + 1) a m c z 0 [⟨w.heap.size, 0, IsI⟩, ⟨w.heap.size, 1, IsI⟩] w1 := by
  have e : (w.alloc (.cells #[.int .i64 x, .int .i64 y] t)).heap.size = w.heap.size + 1 := by simp
  rw [e] at h1
  have g2 : (w.alloc (.cells #[.int .i64 x, .int .i64 y] t)).grownBy w1 (some (w.heap.size + 1)) := ⟨g1.os, g1.tape, g1.output, g1.size, fun k hk _ => g1.block k hk (by simp)⟩
  refine ⟨⟨0, Nat.le_refl _, h1⟩, grown_trans (World.grownBy_alloc _ _ _) g2, ?_⟩
  refine Fs.next ?_ g2
  refine Fs.cons (by show w.heap.size ≠ _; omega) (Nat.le_refl _) (by show w.heap.size < _; simp) (by simp [go_sem]) (v := .int .i64 x) (by simp [go_sem]) ⟨x, rfl, hx⟩ ?_
  exact Fs.cons (by show w.heap.size ≠ _; omega) (Nat.le_refl _) (by show w.heap.size < _; simp) (by simp [go_sem]) (v := .int .i64 y) (by simp [go_sem]) ⟨y, rfl, hy⟩ (Fs.nil _ _ _)
theorem Dr.below0 {w : World} {R : Nat} {a : Option Addr} {m c : Nat} {z : Nat → Int} {Q : Nat} {F : List Sp} {W : World} (h : Dr w R a m c z Q F W) (hR : w.heap.size ≤ R) : Below w.heap.size w W := below_at (Below.refl _ _) h.grown hR
def Bo (v : Value) : Prop := ∃ t, v = .bool t

end Go.Proofs.Ytiehokibfdaleaa
