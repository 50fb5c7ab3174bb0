/- What DrawInsNext answers: some step and some int. -/
import Derived.Test.YtafikmgpiklgkaaDrawIns2
namespace Go.Proofs.Ytafikmgpiklgkaa
open Go.ChangeShapes Go.WideShapes Go.ChangeAt Go.RowKit

/-- A reader opened behind a block of eight ints. -/
theorem dr_open8 {w w1 : World} {a : Option Addr} {m c : Nat} {z : Nat → Int} {t : TypeId} (h1 : Rd w1 (w.alloc (.cells #[.int .i64 0, .int .i64 0, .int .i64 0, .int .i64 0, .int .i64 0, .int .i64 0, .int .i64 0, .int .i64 0] t)).heap.size a m c z 0) (g1 : (w.alloc (.cells #[.int .i64 0, .int .i64 0, .int .i64 0, .int .i64 0, .int .i64 0, .int .i64 0, .int .i64 0, .int .i64 0] t)).grownBy w1 none) : Dr w (w.heap.size + 1) a m c z 0 (⟨w.heap.size, 0, IsI⟩ :: ⟨w.heap.size, 1, IsI⟩ :: ⟨w.heap.size, 2, IsI⟩ :: ⟨w.heap.size, 3, IsI⟩ :: ⟨w.heap.size, 4, IsI⟩ :: ⟨w.heap.size, 5, IsI⟩ :: ⟨w.heap.size, 6, IsI⟩ :: ⟨w.heap.size, 7, IsI⟩ :: []) w1 := by
  have e : (w.alloc (.cells #[.int .i64 0, .int .i64 0, .int .i64 0, .int .i64 0, .int .i64 0, .int .i64 0, .int .i64 0, .int .i64 0] t)).heap.size = w.heap.size + 1 := by simp
  rw [e] at h1
  have g2 : (w.alloc (.cells #[.int .i64 0, .int .i64 0, .int .i64 0, .int .i64 0, .int .i64 0, .int .i64 0, .int .i64 0, .int .i64 0] t)).grownBy w1 (some (w.heap.size + 1)) := ⟨g1.os, g1.tape, g1.output, g1.size, fun k hk _ => g1.block k hk (by simp)⟩
  have i0 : IsI (.int .i64 0) := ⟨0, rfl, by constructor <;> omega⟩
  refine ⟨⟨0, Nat.le_refl _, h1⟩, grown_trans (World.grownBy_alloc _ _ _) g2, ?_⟩
  refine Fs.next ?_ g2
  refine Fs.cons (by show w.heap.size ≠ _; omega) (Nat.le_refl _) (by show w.heap.size < _; simp) (by simp [go_sem]) (v := .int .i64 0) (by simp [go_sem]) i0 ?_
  refine Fs.cons (by show w.heap.size ≠ _; omega) (Nat.le_refl _) (by show w.heap.size < _; simp) (by simp [go_sem]) (v := .int .i64 0) (by simp [go_sem]) i0 ?_
  refine Fs.cons (by show w.heap.size ≠ _; omega) (Nat.le_refl _) (by show w.heap.size < _; simp) (by simp [go_sem]) (v := .int .i64 0) (by simp [go_sem]) i0 ?_
  refine Fs.cons (by show w.heap.size ≠ _; omega) (Nat.le_refl _) (by show w.heap.size < _; simp) (by simp [go_sem]) (v := .int .i64 0) (by simp [go_sem]) i0 ?_
  refine Fs.cons (by show w.heap.size ≠ _; omega) (Nat.le_refl _) (by show w.heap.size < _; simp) (by simp [go_sem]) (v := .int .i64 0) (by simp [go_sem]) i0 ?_
  refine Fs.cons (by show w.heap.size ≠ _; omega) (Nat.le_refl _) (by show w.heap.size < _; simp) (by simp [go_sem]) (v := .int .i64 0) (by simp [go_sem]) i0 ?_
  refine Fs.cons (by show w.heap.size ≠ _; omega) (Nat.le_refl _) (by show w.heap.size < _; simp) (by simp [go_sem]) (v := .int .i64 0) (by simp [go_sem]) i0 ?_
  refine Fs.cons (by show w.heap.size ≠ _; omega) (Nat.le_refl _) (by show w.heap.size < _; simp) (by simp [go_sem]) (v := .int .i64 0) (by simp [go_sem]) i0 ?_
  exact Fs.nil _ _ _
set_option maxRecDepth 10000 in
set_option maxHeartbeats 40000000 in
theorem drawInsNext (a : Option Addr) (len cap : Nat) (z : Nat → Int) (w : World) (hz : ∀ i, 0 ≤ z i ∧ z i ≤ 255) (hl : len ≤ 1048576) (h : Bytes w a len cap z) :
    Calls Try.prog 4 #[.slice a len cap] w fun e w' => ∃ x0 x1 x2 x3 x4 x5 x6 x7 n : Int, I64 x0 ∧ I64 x1 ∧ I64 x2 ∧ I64 x3 ∧ I64 x4 ∧ I64 x5 ∧ I64 x6 ∧ I64 x7 ∧ I64 n ∧ e = .returned (.tuple #[.agg #[.int .i64 x0, .int .i64 x1, .int .i64 x2, .int .i64 x3, .int .i64 x4, .int .i64 x5, .int .i64 x6, .int .i64 x7], .int .i64 n]) ∧ Below w.heap.size w w' := by
  have b0 : Below w.heap.size w (w.alloc (.cells #[.int .i64 0, .int .i64 0, .int .i64 0, .int .i64 0, .int .i64 0, .int .i64 0, .int .i64 0, .int .i64 0] 24)) := (Below.refl _ _).alloc (Nat.le_refl _) _
  go_enter Try.func4, Try.ntmps4
  go_wp2_with fail
  refine (openS2 a len cap z _ hz hl (h.kept b0)).mono ?_
  rintro e w1 ⟨m, c, hm, rfl, h1, g1⟩
  have ho := old_of h hm
  have D1 := dr_open8 h1 g1
  obtain ⟨R, hR⟩ : ∃ R, R = (w.alloc (.cells #[.int .i64 0, .int .i64 0, .int .i64 0, .int .i64 0, .int .i64 0, .int .i64 0, .int .i64 0, .int .i64 0] 24)).heap.size := ⟨_, rfl⟩
  have hR1 : R = w.heap.size + 1 := by rw [hR]; simp
  rw [← hR1] at D1
  rw [← hR]
  have hRw : w.heap.size ≤ R := by omega
  have hOR : w.heap.size ≠ R := by omega
  clear hR hR1 h1 g1 b0 h hm hz
  obtain ⟨p1, hp1, hr1⟩ := D1.rd
  go_wp2_with fail
  refine (insOrD R a m c z p1 12 _ hr1 (by omega) (by omega) (by omega)).mono ?_
  rintro e w2 ⟨v, p2, ⟨x0, x1, x2, x3, x4, x5, x6, x7, rfl, hx0, hx1, hx2, hx3, hx4, hx5, hx6, hx7⟩, rfl, hp2, h2, g2⟩
  have D2 := Dr.next (Q' := 200) D1 h2 g2 (by omega)
  have D3 := D2.new8 (t := 24) (v0 := .int .i64 x0) (v1 := .int .i64 x1) (v2 := .int .i64 x2) (v3 := .int .i64 x3) (v4 := .int .i64 x4) (v5 := .int .i64 x5) (v6 := .int .i64 x6) (v7 := .int .i64 x7) ⟨_, rfl, hx0⟩ ⟨_, rfl, hx1⟩ ⟨_, rfl, hx2⟩ ⟨_, rfl, hx3⟩ ⟨_, rfl, hx4⟩ ⟨_, rfl, hx5⟩ ⟨_, rfl, hx6⟩ ⟨_, rfl, hx7⟩
  obtain ⟨X, hX⟩ : ∃ X, X = w2.heap.size := ⟨_, rfl⟩
  have hXO : w.heap.size < X := by have := (D2.fs ⟨w.heap.size, 0, IsI⟩ (by simp)).2.2.1; rw [hX]; exact this
  rw [← hX] at D3
  have hXS : Hid (X = w2.heap.size) := hX
  clear hX D1 D2 h2 g2 hr1 hx0 hx1 hx2 hx3 hx4 hx5 hx6 hx7
  obtain ⟨F, hF⟩ : ∃ F : List Sp, F = ⟨X, 0, IsI⟩ :: ⟨X, 1, IsI⟩ :: ⟨X, 2, IsI⟩ :: ⟨X, 3, IsI⟩ :: ⟨X, 4, IsI⟩ :: ⟨X, 5, IsI⟩ :: ⟨X, 6, IsI⟩ :: ⟨X, 7, IsI⟩ :: ⟨w.heap.size, 0, IsI⟩ :: ⟨w.heap.size, 1, IsI⟩ :: ⟨w.heap.size, 2, IsI⟩ :: ⟨w.heap.size, 3, IsI⟩ :: ⟨w.heap.size, 4, IsI⟩ :: ⟨w.heap.size, 5, IsI⟩ :: ⟨w.heap.size, 6, IsI⟩ :: ⟨w.heap.size, 7, IsI⟩ :: [] := ⟨_, rfl⟩
  rw [← hF] at D3
  have mO : ∀ i, i < 8 → (⟨w.heap.size, i, IsI⟩ : Sp) ∈ F := by
    intro i hi
    rw [hF]
    rcases (show i = 0 ∨ i = 1 ∨ i = 2 ∨ i = 3 ∨ i = 4 ∨ i = 5 ∨ i = 6 ∨ i = 7 by omega) with rfl | rfl | rfl | rfl | rfl | rfl | rfl | rfl <;> simp
  have mX : ∀ i, i < 8 → (⟨X, i, IsI⟩ : Sp) ∈ F := by
    intro i hi
    rw [hF]
    rcases (show i = 0 ∨ i = 1 ∨ i = 2 ∨ i = 3 ∨ i = 4 ∨ i = 5 ∨ i = 6 ∨ i = 7 by omega) with rfl | rfl | rfl | rfl | rfl | rfl | rfl | rfl <;> simp
  have hFO : ∀ v, IsI v → ∀ f ∈ F, f.b = w.heap.size → f.P v := by
    intro v hv f hf _
    rw [hF] at hf
    simp only [List.mem_cons, List.not_mem_nil, or_false] at hf
    rcases hf with rfl | rfl | rfl | rfl | rfl | rfl | rfl | rfl | rfl | rfl | rfl | rfl | rfl | rfl | rfl | rfl <;> exact hv
  have hBin : ∀ {K n : Nat} {L : Nat → Bool} {Q : Nat} W, DS w R a m c z Q K n F L W → w.heap.size < W.heap.size := fun W hS => (hS.fs _ (mO 0 (by omega))).2.2.1
  clear hF
  obtain ⟨p3, hp3, hr3⟩ := D3.rd
  go_wp2_with fail
  rw [← hXS.out]
  clear hXS
  refine (oddS R a m c z p3 12 _ hr3 (by omega) (by omega) (by omega)).mono ?_
  rintro e w4 ⟨od, rfl, h4, g4⟩
  have D4 : Dr w R a m c z 300 F w4 := D3.next h4 g4 (by omega)
  clear D3 hr3 h4 g4
  have hS0 : DS w R a m c z 300 1 8 F (fun _ => false) w4.drew := DS.start D4.drew
  have hS1 : DS w R a m c z 300 1 5 F (fun _ => false) w4.drew := DS.start D4.drew
  clear D4
  cases od
  · have hS0 := hS1
    clear hS1
    go_wp2_with fail
    refine region_inv3 [(0, 18), (1, 19), (2, 20), (4, 3)]
      (fun j v W => match j with
        | 0 => IsIns v
        | 1 => Is (.pointer (some ⟨R, 0, none⟩)) v
        | 2 => Nt (10) v
        | 4 => IsI v
        | _ => True)
      (DS w R a m c z 300 1 5 F) (Kp R w.heap.size)
      (by kernel_rfl) (by kernel_rfl) (by kernel_rfl) (by kernel_rfl) (by kernel_rfl) rfl hS0 ?_ ?_ ?_
    · intro i j v W W' hji hφ hT
      match j, hji, hφ with
      | 0, _, hφ => exact hφ
      | 1, _, hφ => exact hφ
      | 2, _, hφ => exact hφ
      | 3, _, hφ => exact hφ
      | 4, _, hφ => exact hφ
      | _ + 5, _, _ => trivial
    · intro i L vals W hi' hφ hS hL hd
      have hi2 : i < 5 := hi'
      clear hi'
      have hbd := DS.bd (K := 1) (n := 5) (L := L)
      obtain ⟨p', hp', hr⟩ := hS.rd
      have hrs := hr.size
      rcases (show i = 0 ∨ i = 1 ∨ i = 2 ∨ i = 3 ∨ i = 4 by omega) with rfl | rfl | rfl | rfl | rfl
      · obtain ⟨s0, s1, s2, s3, s4, s5, s6, s7, ⟨b0, b1, b2, b3, b4, b5, b6, b7⟩, ⟨j0, j1, j2, j3, j4, j5, j6, j7⟩⟩ := Dr.at8 hS mX
        refine wpAt_of rfl rfl ?_
        simp only [frOf, Act.put]
        go_wp2_with fail
        first | exact ⟨trivial, ⟨_, _, _, _, _, _, _, _, rfl, j0, j1, j2, j3, j4, j5, j6, j7⟩, Kp.refl _ _ _ _, hS.pure hL (by decide)⟩ | exact ⟨⟨_, _, _, _, _, _, _, _, rfl, j0, j1, j2, j3, j4, j5, j6, j7⟩, Kp.refl _ _ _ _, hS.pure hL (by decide)⟩
      · refine wpAt_of rfl rfl ?_
        simp only [frOf, Act.put]
        go_wp2_with fail
        first | exact ⟨trivial, rfl, Kp.refl _ _ _ _, hS.pure hL (by decide)⟩ | exact ⟨rfl, Kp.refl _ _ _ _, hS.pure hL (by decide)⟩
      · have k1 : vals 1 = .pointer (some ⟨R, 0, none⟩) := hφ 1 (hd 1 (by decide))
        refine wpAt_of rfl rfl ?_
        simp only [frOf, Act.put]
        go_wp2_with fail
        refine (pick R a m c z p' (10) _ hr (by omega) (by omega) (by omega)).mono ?_
        rintro e W' ⟨x, hx1, hx2, rfl, hR', g⟩
        go_wp2_with fail
        first | exact ⟨trivial, ⟨x, hx1, hx2, rfl⟩, Kp.of g, DS.call hS hL (by decide) hR' g (by omega)⟩ | exact ⟨⟨x, hx1, hx2, rfl⟩, Kp.of g, DS.call hS hL (by decide) hR' g (by omega)⟩
      · obtain ⟨o0_0, o0_1, o0_2, o0_3, o0_4, o0_5, o0_6, o0_7, k0, i0_0, i0_1, i0_2, i0_3, i0_4, i0_5, i0_6, i0_7⟩ : IsIns (vals 0) := hφ 0 (hd 0 (by decide))
        obtain ⟨y0, y1, y2, y3, y4, y5, y6, y7, ⟨c0, c1, c2, c3, c4, c5, c6, c7⟩, _⟩ := Dr.at8 hS mO
        obtain ⟨f0, f1, f2, f3, f4, f5, f6, f7⟩ := Dr.free8 hS mO
        refine wpAt_none rfl rfl ?_
        simp only [frOf, Act.put]
        go_wp2_with fail
        first | exact ⟨trivial, trivial, Kp.set8, DS.set8 hS hL (by decide) ho hOR (Nat.le_refl _) hFO ⟨_, rfl, i0_0⟩ ⟨_, rfl, i0_1⟩ ⟨_, rfl, i0_2⟩ ⟨_, rfl, i0_3⟩ ⟨_, rfl, i0_4⟩ ⟨_, rfl, i0_5⟩ ⟨_, rfl, i0_6⟩ ⟨_, rfl, i0_7⟩⟩ | exact ⟨trivial, Kp.set8, DS.set8 hS hL (by decide) ho hOR (Nat.le_refl _) hFO ⟨_, rfl, i0_0⟩ ⟨_, rfl, i0_1⟩ ⟨_, rfl, i0_2⟩ ⟨_, rfl, i0_3⟩ ⟨_, rfl, i0_4⟩ ⟨_, rfl, i0_5⟩ ⟨_, rfl, i0_6⟩ ⟨_, rfl, i0_7⟩⟩ | exact ⟨trivial, Kp.set8, DS.set8 hS hL (by decide) ho hOR (Nat.le_refl _) hFO ⟨_, rfl, i0_0⟩ ⟨_, rfl, i0_1⟩ ⟨_, rfl, i0_2⟩ ⟨_, rfl, i0_3⟩ ⟨_, rfl, i0_4⟩ ⟨_, rfl, i0_5⟩ ⟨_, rfl, i0_6⟩ ⟨_, rfl, i0_7⟩⟩ | exact ⟨Kp.set8, DS.set8 hS hL (by decide) ho hOR (Nat.le_refl _) hFO ⟨_, rfl, i0_0⟩ ⟨_, rfl, i0_1⟩ ⟨_, rfl, i0_2⟩ ⟨_, rfl, i0_3⟩ ⟨_, rfl, i0_4⟩ ⟨_, rfl, i0_5⟩ ⟨_, rfl, i0_6⟩ ⟨_, rfl, i0_7⟩⟩
      · obtain ⟨n2, l2, h2, k2⟩ : Nt (10) (vals 2) := hφ 2 (hd 2 (by decide))
        refine wpAt_of rfl rfl ?_
        simp only [frOf, Act.put]
        go_wp2_with fail
        first | exact ⟨trivial, ⟨_, rfl, by constructor <;> first | assumption | omega⟩, Kp.refl _ _ _ _, hS.pure hL (by decide)⟩ | exact ⟨⟨_, rfl, by constructor <;> first | assumption | omega⟩, Kp.refl _ _ _ _, hS.pure hL (by decide)⟩
    · intro L vals W hall hφ hS'
      have hS := hS'.done
      clear hS' hS0
      simp only [frOf, Act.put, List.setIfInBounds_toArray, List.set_cons_succ, List.set_cons_zero]
      obtain ⟨nz, kz, iz⟩ : IsI (vals 4) := hφ 4 (by decide)
      obtain ⟨s0, s1, s2, s3, s4, s5, s6, s7, ⟨e0, e1, e2, e3, e4, e5, e6, e7⟩, ⟨j0, j1, j2, j3, j4, j5, j6, j7⟩⟩ := hS.at8 mO
      have bE := hS.below0 hRw
      go_wp2_with fail
      exact bodyPost_ret (v := .tuple #[.agg #[.int .i64 s0, .int .i64 s1, .int .i64 s2, .int .i64 s3, .int .i64 s4, .int .i64 s5, .int .i64 s6, .int .i64 s7], .int .i64 nz]) (by simp [results, Try.results4, go_sem, e0, e1, e2, e3, e4, e5, e6, e7, kz]) rfl ⟨s0, s1, s2, s3, s4, s5, s6, s7, nz, j0, j1, j2, j3, j4, j5, j6, j7, iz, rfl, bE⟩
  · clear hS1
    go_wp2_with fail
    refine region_inv3 [(0, 12), (1, 13), (2, 14), (3, 15), (4, 16), (5, 17), (7, 3)]
      (fun j v W => match j with
        | 0 => IsIns v
        | 1 => TabN R w.heap.size 3 v W
        | 2 => Is (.pointer (some ⟨R, 0, none⟩)) v
        | 3 => Nt (3) v
        | 4 => Spt R w.heap.size v W
        | 5 => IsI v
        | 7 => IsI v
        | _ => True)
      (DS w R a m c z 300 1 8 F) (Kp R w.heap.size)
      (by kernel_rfl) (by kernel_rfl) (by kernel_rfl) (by kernel_rfl) (by kernel_rfl) rfl hS0 ?_ ?_ ?_
    · intro i j v W W' hji hφ hT
      match j, hji, hφ with
      | 0, _, hφ => exact hφ
      | 1, _, hφ => exact TabN.next hφ hT
      | 2, _, hφ => exact hφ
      | 3, _, hφ => exact hφ
      | 4, _, hφ => exact Spt.next hφ hT
      | 5, _, hφ => exact hφ
      | 6, _, hφ => exact hφ
      | 7, _, hφ => exact hφ
      | _ + 8, _, _ => trivial
    · intro i L vals W hi' hφ hS hL hd
      have hi2 : i < 8 := hi'
      clear hi'
      have hbd := DS.bd (K := 1) (n := 8) (L := L)
      obtain ⟨p', hp', hr⟩ := hS.rd
      have hrs := hr.size
      rcases (show i = 0 ∨ i = 1 ∨ i = 2 ∨ i = 3 ∨ i = 4 ∨ i = 5 ∨ i = 6 ∨ i = 7 by omega) with rfl | rfl | rfl | rfl | rfl | rfl | rfl | rfl
      · obtain ⟨s0, s1, s2, s3, s4, s5, s6, s7, ⟨b0, b1, b2, b3, b4, b5, b6, b7⟩, ⟨j0, j1, j2, j3, j4, j5, j6, j7⟩⟩ := Dr.at8 hS mX
        refine wpAt_of rfl rfl ?_
        simp only [frOf, Act.put]
        go_wp2_with fail
        first | exact ⟨trivial, ⟨_, _, _, _, _, _, _, _, rfl, j0, j1, j2, j3, j4, j5, j6, j7⟩, Kp.refl _ _ _ _, hS.pure hL (by decide)⟩ | exact ⟨⟨_, _, _, _, _, _, _, _, rfl, j0, j1, j2, j3, j4, j5, j6, j7⟩, Kp.refl _ _ _ _, hS.pure hL (by decide)⟩
      · have hBlt : w.heap.size < W.heap.size := hBin W hS
        refine wpAt_of rfl rfl ?_
        simp only [frOf, Act.put]
        go_wp2_with fail
        first | exact ⟨trivial, tabN_of hrs hBlt rfl (by kernel_rfl), Kp.of (World.grownBy_alloc _ _ _), DS.alloc hS hL (by decide) _⟩ | exact ⟨tabN_of hrs hBlt rfl (by kernel_rfl), Kp.of (World.grownBy_alloc _ _ _), DS.alloc hS hL (by decide) _⟩
      · refine wpAt_of rfl rfl ?_
        simp only [frOf, Act.put]
        go_wp2_with fail
        first | exact ⟨trivial, rfl, Kp.refl _ _ _ _, hS.pure hL (by decide)⟩ | exact ⟨rfl, Kp.refl _ _ _ _, hS.pure hL (by decide)⟩
      · have k2 : vals 2 = .pointer (some ⟨R, 0, none⟩) := hφ 2 (hd 2 (by decide))
        refine wpAt_of rfl rfl ?_
        simp only [frOf, Act.put]
        go_wp2_with fail
        refine (pick R a m c z p' (3) _ hr (by omega) (by omega) (by omega)).mono ?_
        rintro e W' ⟨x, hx1, hx2, rfl, hR', g⟩
        go_wp2_with fail
        first | exact ⟨trivial, ⟨x, hx1, hx2, rfl⟩, Kp.of g, DS.call hS hL (by decide) hR' g (by omega)⟩ | exact ⟨⟨x, hx1, hx2, rfl⟩, Kp.of g, DS.call hS hL (by decide) hR' g (by omega)⟩
      · obtain ⟨g1, k1, t11, t21, t31, t41⟩ : TabN R w.heap.size 3 (vals 1) W := hφ 1 (hd 1 (by decide))
        obtain ⟨n3, l3, h3, k3⟩ : Nt (3) (vals 3) := hφ 3 (hd 3 (by decide))
        obtain ⟨kk, rfl⟩ := Int.eq_ofNat_of_zero_le l3
        obtain ⟨y, cy, hy⟩ := t41 kk (by omega)
        have tn : ((kk : Int)).toNat = kk := by omega
        refine wpAt_of rfl rfl ?_
        simp only [frOf, Act.put]
        go_wp2_with fail
        first | exact ⟨trivial, ⟨g1, kk, rfl, t11, t21, t31, y, cy, hy⟩, Kp.refl _ _ _ _, hS.pure hL (by decide)⟩ | exact ⟨⟨g1, kk, rfl, t11, t21, t31, y, cy, hy⟩, Kp.refl _ _ _ _, hS.pure hL (by decide)⟩
      · obtain ⟨g4, j4, k4, s14, s24, s34, y4, s44, s54⟩ : Spt R w.heap.size (vals 4) W := hφ 4 (hd 4 (by decide))
        refine wpAt_of rfl rfl ?_
        simp only [frOf, Act.put]
        go_wp2_with fail
        first | exact ⟨trivial, ⟨_, rfl, by assumption⟩, Kp.refl _ _ _ _, hS.pure hL (by decide)⟩ | exact ⟨⟨_, rfl, by assumption⟩, Kp.refl _ _ _ _, hS.pure hL (by decide)⟩
      · obtain ⟨o0_0, o0_1, o0_2, o0_3, o0_4, o0_5, o0_6, o0_7, k0, i0_0, i0_1, i0_2, i0_3, i0_4, i0_5, i0_6, i0_7⟩ : IsIns (vals 0) := hφ 0 (hd 0 (by decide))
        obtain ⟨y0, y1, y2, y3, y4, y5, y6, y7, ⟨c0, c1, c2, c3, c4, c5, c6, c7⟩, _⟩ := Dr.at8 hS mO
        obtain ⟨f0, f1, f2, f3, f4, f5, f6, f7⟩ := Dr.free8 hS mO
        refine wpAt_none rfl rfl ?_
        simp only [frOf, Act.put]
        go_wp2_with fail
        first | exact ⟨trivial, trivial, Kp.set8, DS.set8 hS hL (by decide) ho hOR (Nat.le_refl _) hFO ⟨_, rfl, i0_0⟩ ⟨_, rfl, i0_1⟩ ⟨_, rfl, i0_2⟩ ⟨_, rfl, i0_3⟩ ⟨_, rfl, i0_4⟩ ⟨_, rfl, i0_5⟩ ⟨_, rfl, i0_6⟩ ⟨_, rfl, i0_7⟩⟩ | exact ⟨trivial, Kp.set8, DS.set8 hS hL (by decide) ho hOR (Nat.le_refl _) hFO ⟨_, rfl, i0_0⟩ ⟨_, rfl, i0_1⟩ ⟨_, rfl, i0_2⟩ ⟨_, rfl, i0_3⟩ ⟨_, rfl, i0_4⟩ ⟨_, rfl, i0_5⟩ ⟨_, rfl, i0_6⟩ ⟨_, rfl, i0_7⟩⟩ | exact ⟨trivial, Kp.set8, DS.set8 hS hL (by decide) ho hOR (Nat.le_refl _) hFO ⟨_, rfl, i0_0⟩ ⟨_, rfl, i0_1⟩ ⟨_, rfl, i0_2⟩ ⟨_, rfl, i0_3⟩ ⟨_, rfl, i0_4⟩ ⟨_, rfl, i0_5⟩ ⟨_, rfl, i0_6⟩ ⟨_, rfl, i0_7⟩⟩ | exact ⟨Kp.set8, DS.set8 hS hL (by decide) ho hOR (Nat.le_refl _) hFO ⟨_, rfl, i0_0⟩ ⟨_, rfl, i0_1⟩ ⟨_, rfl, i0_2⟩ ⟨_, rfl, i0_3⟩ ⟨_, rfl, i0_4⟩ ⟨_, rfl, i0_5⟩ ⟨_, rfl, i0_6⟩ ⟨_, rfl, i0_7⟩⟩
      · obtain ⟨n5, k5, ⟨l5, h5⟩⟩ : IsI (vals 5) := hφ 5 (hd 5 (by decide))
        refine wpAt_of rfl rfl ?_
        simp only [frOf, Act.put]
        go_wp2_with fail
        first | exact ⟨trivial, ⟨_, rfl, by constructor <;> first | assumption | omega⟩, Kp.refl _ _ _ _, hS.pure hL (by decide)⟩ | exact ⟨⟨_, rfl, by constructor <;> first | assumption | omega⟩, Kp.refl _ _ _ _, hS.pure hL (by decide)⟩
    · intro L vals W hall hφ hS'
      have hS := hS'.done
      clear hS' hS0
      simp only [frOf, Act.put, List.setIfInBounds_toArray, List.set_cons_succ, List.set_cons_zero]
      obtain ⟨nz, kz, iz⟩ : IsI (vals 7) := hφ 7 (by decide)
      obtain ⟨s0, s1, s2, s3, s4, s5, s6, s7, ⟨e0, e1, e2, e3, e4, e5, e6, e7⟩, ⟨j0, j1, j2, j3, j4, j5, j6, j7⟩⟩ := hS.at8 mO
      have bE := hS.below0 hRw
      go_wp2_with fail
      exact bodyPost_ret (v := .tuple #[.agg #[.int .i64 s0, .int .i64 s1, .int .i64 s2, .int .i64 s3, .int .i64 s4, .int .i64 s5, .int .i64 s6, .int .i64 s7], .int .i64 nz]) (by simp [results, Try.results4, go_sem, e0, e1, e2, e3, e4, e5, e6, e7, kz]) rfl ⟨s0, s1, s2, s3, s4, s5, s6, s7, nz, j0, j1, j2, j3, j4, j5, j6, j7, iz, rfl, bE⟩
end Go.Proofs.Ytafikmgpiklgkaa
