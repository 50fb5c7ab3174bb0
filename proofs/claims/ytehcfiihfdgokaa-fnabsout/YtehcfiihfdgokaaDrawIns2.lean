/- What the drawing of steps answers, the rest: l20SpoilIns, l20InsOr some step; DrawInsNext some step and some int. -/
import Derived.Test.YtehcfiihfdgokaaDrawIns
import Derived.Test.YtehcfiihfdgokaaDrawOf
namespace Go.Proofs.Ytehcfiihfdgokaa
open Go.ChangeShapes Go.WideShapes Go.ChangeAt Go.RowKit

set_option maxRecDepth 10000 in
set_option maxHeartbeats 40000000 in
theorem spoilD (R : Nat) (a : Option Addr) (m c : Nat) (z : Nat → Int) (p : Nat) (x0 x1 x2 x3 x4 x5 x6 x7 : Int) (w : World) (h : Rd w R a m c z p) (hp : p < 500000) (hx0 : I64 x0) (hx1 : I64 x1) (hx2 : I64 x2) (hx3 : I64 x3) (hx4 : I64 x4) (hx5 : I64 x5) (hx6 : I64 x6) (hx7 : I64 x7) :
    Calls Try.prog 46 #[.pointer (some ⟨R, 0, none⟩), .agg #[.int .i64 x0, .int .i64 x1, .int .i64 x2, .int .i64 x3, .int .i64 x4, .int .i64 x5, .int .i64 x6, .int .i64 x7]] w (DIns R a m c z p w) := by
  have hRs := h.size
  have ho := old_rd h
  have i0 : IsI (.int .i64 0) := ⟨0, rfl, by constructor <;> omega⟩
  have Da : Dr w R a m c z p [] w := ⟨⟨p, Nat.le_refl _, h⟩, grown_refl _ _, Fs.nil _ _ _⟩
  have Db := Da.new8 (t := 24) (v0 := .int .i64 x0) (v1 := .int .i64 x1) (v2 := .int .i64 x2) (v3 := .int .i64 x3) (v4 := .int .i64 x4) (v5 := .int .i64 x5) (v6 := .int .i64 x6) (v7 := .int .i64 x7) ⟨_, rfl, hx0⟩ ⟨_, rfl, hx1⟩ ⟨_, rfl, hx2⟩ ⟨_, rfl, hx3⟩ ⟨_, rfl, hx4⟩ ⟨_, rfl, hx5⟩ ⟨_, rfl, hx6⟩ ⟨_, rfl, hx7⟩
  have Dc := Db.new8 (t := 24) i0 i0 i0 i0 i0 i0 i0 i0
  have es : (w.alloc (.cells #[.int .i64 x0, .int .i64 x1, .int .i64 x2, .int .i64 x3, .int .i64 x4, .int .i64 x5, .int .i64 x6, .int .i64 x7] 24)).heap.size = w.heap.size + 1 := by simp
  rw [es] at Dc
  clear Da Db es
  obtain ⟨F, hF⟩ : ∃ F : List Sp, F = ⟨w.heap.size + 1, 0, IsI⟩ :: ⟨w.heap.size + 1, 1, IsI⟩ :: ⟨w.heap.size + 1, 2, IsI⟩ :: ⟨w.heap.size + 1, 3, IsI⟩ :: ⟨w.heap.size + 1, 4, IsI⟩ :: ⟨w.heap.size + 1, 5, IsI⟩ :: ⟨w.heap.size + 1, 6, IsI⟩ :: ⟨w.heap.size + 1, 7, IsI⟩ :: ⟨w.heap.size, 0, IsI⟩ :: ⟨w.heap.size, 1, IsI⟩ :: ⟨w.heap.size, 2, IsI⟩ :: ⟨w.heap.size, 3, IsI⟩ :: ⟨w.heap.size, 4, IsI⟩ :: ⟨w.heap.size, 5, IsI⟩ :: ⟨w.heap.size, 6, IsI⟩ :: ⟨w.heap.size, 7, IsI⟩ :: [] := ⟨_, rfl⟩
  rw [← hF] at Dc
  have mO : ∀ i, i < 8 → (⟨w.heap.size, i, IsI⟩ : Sp) ∈ F := by
    intro i hi
    rw [hF]
    rcases (show i = 0 ∨ i = 1 ∨ i = 2 ∨ i = 3 ∨ i = 4 ∨ i = 5 ∨ i = 6 ∨ i = 7 by omega) with rfl | rfl | rfl | rfl | rfl | rfl | rfl | rfl <;> simp
  have mI : ∀ i, i < 8 → (⟨w.heap.size + 1, i, IsI⟩ : Sp) ∈ F := by
    intro i hi
    rw [hF]
    rcases (show i = 0 ∨ i = 1 ∨ i = 2 ∨ i = 3 ∨ i = 4 ∨ i = 5 ∨ i = 6 ∨ i = 7 by omega) with rfl | rfl | rfl | rfl | rfl | rfl | rfl | rfl <;> simp
  have hFA : ∀ v, IsI v → ∀ f ∈ F, f.P v := by
    intro v hv f hf
    rw [hF] at hf
    simp only [List.mem_cons, List.not_mem_nil, or_false] at hf
    rcases hf with rfl | rfl | rfl | rfl | rfl | rfl | rfl | rfl | rfl | rfl | rfl | rfl | rfl | rfl | rfl | rfl <;> exact hv
  have hFB : ∀ v, IsI v → ∀ f ∈ F, f.b = w.heap.size + 1 → f.P v := fun v hv f hf _ => hFA v hv f hf
  have hFO : ∀ v, IsI v → ∀ f ∈ F, f.b = w.heap.size → f.P v := fun v hv f hf _ => hFA v hv f hf
  have hBR : w.heap.size + 1 ≠ R := by omega
  have hOR : w.heap.size ≠ R := by omega
  have hBw : w.heap.size ≤ w.heap.size + 1 := Nat.le_succ _
  have hBin : ∀ {K n : Nat} {L : Nat → Bool} {Q : Nat} W, DS w R a m c z Q K n F L W → w.heap.size + 1 < W.heap.size := fun W hS => (hS.fs _ (mI 0 (by omega))).2.2.1
  clear hF i0
  obtain ⟨p0, hp0, hr0⟩ := Dc.rd
  go_enter Try.func46, Try.ntmps46
  go_wp2_with fail
  refine (pick R a m c z p0 7 _ hr0 (by omega) (by omega) (by omega)).mono ?_
  rintro e w1 ⟨x, hx, hx', rfl, h1, g1⟩
  have D1 : Dr w R a m c z (p + 1) F w1 := Dc.next h1 g1 (by omega)
  clear Dc hr0 h1 g1 h hx0 hx1 hx2 hx3 hx4 hx5 hx6 hx7
  go_upto_block 0 with fail
  go_cut [3] (fun v W => v = .pointer (some ⟨w.heap.size, 0, none⟩) ∧ Dr w R a m c z (p + 2) F W)
  case first =>
    obtain rfl | rfl | rfl | rfl | rfl | rfl | rfl : x = 0 ∨ x = 1 ∨ x = 2 ∨ x = 3 ∨ x = 4 ∨ x = 5 ∨ x = 6 := by omega
    · obtain ⟨pn, hpn, hrn⟩ := D1.rd
      have hwn := hrn.size
      go_wp2_with fail
      refine (pick R a m c z pn 3 _ (hrn.kept (World.grownBy_alloc _ _ none) (by simp)) (by omega) (by omega) (by omega)).mono ?_
      rintro e Wn ⟨y, hy, hy', rfl, hn', gn'⟩
      obtain ⟨kk, rfl⟩ := Int.eq_ofNat_of_zero_le hy
      obtain ⟨v, hv, v1, v2⟩ := tab_cell (lo := -40000) (hi := 40000) (all_of rfl) gn' hwn kk (by simp; omega)
      have En : Dr w R a m c z (p + 2) F Wn := Dr.next (D1.below ((Below.refl _ _).alloc (Nat.le_refl _) _)) hn' gn' (by omega)
      clear D1 hrn hn' gn'
      obtain ⟨q0, q1, q2, q3, q4, q5, q6, q7, ⟨c0, c1, c2, c3, c4, c5, c6, c7⟩, _⟩ := En.at8 mO
      obtain ⟨f0, f1, f2, f3, f4, f5, f6, f7⟩ := En.free8 mO
      go_wp2_with fail
      go_meet
      exact ⟨rfl, En.set ho hOR (Nat.le_refl _) (fun f hf hb _ => hFO _ ⟨v, rfl, by constructor <;> omega⟩ f hf hb)⟩
    · obtain ⟨pn, hpn, hrn⟩ := D1.rd
      have hwn := hrn.size
      go_wp2_with fail
      refine (pick R a m c z pn 2 _ (hrn.kept (World.grownBy_alloc _ _ none) (by simp)) (by omega) (by omega) (by omega)).mono ?_
      rintro e Wn ⟨y, hy, hy', rfl, hn', gn'⟩
      obtain ⟨kk, rfl⟩ := Int.eq_ofNat_of_zero_le hy
      obtain ⟨v, hv, v1, v2⟩ := tab_cell (lo := -40000) (hi := 40000) (all_of rfl) gn' hwn kk (by simp; omega)
      have En : Dr w R a m c z (p + 2) F Wn := Dr.next (D1.below ((Below.refl _ _).alloc (Nat.le_refl _) _)) hn' gn' (by omega)
      clear D1 hrn hn' gn'
      obtain ⟨q0, q1, q2, q3, q4, q5, q6, q7, ⟨c0, c1, c2, c3, c4, c5, c6, c7⟩, _⟩ := En.at8 mO
      obtain ⟨f0, f1, f2, f3, f4, f5, f6, f7⟩ := En.free8 mO
      go_wp2_with fail
      go_meet
      exact ⟨rfl, En.set ho hOR (Nat.le_refl _) (fun f hf hb _ => hFO _ ⟨v, rfl, by constructor <;> omega⟩ f hf hb)⟩
    · obtain ⟨pn, hpn, hrn⟩ := D1.rd
      have hwn := hrn.size
      go_wp2_with fail
      refine (pick R a m c z pn 3 _ (hrn.kept (World.grownBy_alloc _ _ none) (by simp)) (by omega) (by omega) (by omega)).mono ?_
      rintro e Wn ⟨y, hy, hy', rfl, hn', gn'⟩
      obtain ⟨kk, rfl⟩ := Int.eq_ofNat_of_zero_le hy
      obtain ⟨v, hv, v1, v2⟩ := tab_cell (lo := -40000) (hi := 40000) (all_of rfl) gn' hwn kk (by simp; omega)
      have En : Dr w R a m c z (p + 2) F Wn := Dr.next (D1.below ((Below.refl _ _).alloc (Nat.le_refl _) _)) hn' gn' (by omega)
      clear D1 hrn hn' gn'
      obtain ⟨q0, q1, q2, q3, q4, q5, q6, q7, ⟨c0, c1, c2, c3, c4, c5, c6, c7⟩, _⟩ := En.at8 mO
      obtain ⟨f0, f1, f2, f3, f4, f5, f6, f7⟩ := En.free8 mO
      go_wp2_with fail
      go_meet
      exact ⟨rfl, En.set ho hOR (Nat.le_refl _) (fun f hf hb _ => hFO _ ⟨v, rfl, by constructor <;> omega⟩ f hf hb)⟩
    · obtain ⟨pn, hpn, hrn⟩ := D1.rd
      have hwn := hrn.size
      go_wp2_with fail
      refine (pick R a m c z pn 3 _ (hrn.kept (World.grownBy_alloc _ _ none) (by simp)) (by omega) (by omega) (by omega)).mono ?_
      rintro e Wn ⟨y, hy, hy', rfl, hn', gn'⟩
      obtain ⟨kk, rfl⟩ := Int.eq_ofNat_of_zero_le hy
      obtain ⟨v, hv, v1, v2⟩ := tab_cell (lo := -40000) (hi := 40000) (all_of rfl) gn' hwn kk (by simp; omega)
      have En : Dr w R a m c z (p + 2) F Wn := Dr.next (D1.below ((Below.refl _ _).alloc (Nat.le_refl _) _)) hn' gn' (by omega)
      clear D1 hrn hn' gn'
      obtain ⟨q0, q1, q2, q3, q4, q5, q6, q7, ⟨c0, c1, c2, c3, c4, c5, c6, c7⟩, _⟩ := En.at8 mO
      obtain ⟨f0, f1, f2, f3, f4, f5, f6, f7⟩ := En.free8 mO
      go_wp2_with fail
      go_meet
      exact ⟨rfl, En.set ho hOR (Nat.le_refl _) (fun f hf hb _ => hFO _ ⟨v, rfl, by constructor <;> omega⟩ f hf hb)⟩
    · obtain ⟨pn, hpn, hrn⟩ := D1.rd
      have hwn := hrn.size
      go_wp2_with fail
      refine (pick R a m c z pn 3 _ (hrn.kept (World.grownBy_alloc _ _ none) (by simp)) (by omega) (by omega) (by omega)).mono ?_
      rintro e Wn ⟨y, hy, hy', rfl, hn', gn'⟩
      obtain ⟨kk, rfl⟩ := Int.eq_ofNat_of_zero_le hy
      obtain ⟨v, hv, v1, v2⟩ := tab_cell (lo := -40000) (hi := 40000) (all_of rfl) gn' hwn kk (by simp; omega)
      have En : Dr w R a m c z (p + 2) F Wn := Dr.next (D1.below ((Below.refl _ _).alloc (Nat.le_refl _) _)) hn' gn' (by omega)
      clear D1 hrn hn' gn'
      obtain ⟨q0, q1, q2, q3, q4, q5, q6, q7, ⟨c0, c1, c2, c3, c4, c5, c6, c7⟩, _⟩ := En.at8 mO
      obtain ⟨f0, f1, f2, f3, f4, f5, f6, f7⟩ := En.free8 mO
      go_wp2_with fail
      go_meet
      exact ⟨rfl, En.set ho hOR (Nat.le_refl _) (fun f hf hb _ => hFO _ ⟨v, rfl, by constructor <;> omega⟩ f hf hb)⟩
    · obtain ⟨pn, hpn, hrn⟩ := D1.rd
      have hwn := hrn.size
      go_wp2_with fail
      refine (pick R a m c z pn 3 _ (hrn.kept (World.grownBy_alloc _ _ none) (by simp)) (by omega) (by omega) (by omega)).mono ?_
      rintro e Wn ⟨y, hy, hy', rfl, hn', gn'⟩
      obtain ⟨kk, rfl⟩ := Int.eq_ofNat_of_zero_le hy
      obtain ⟨v, hv, v1, v2⟩ := tab_cell (lo := -40000) (hi := 40000) (all_of rfl) gn' hwn kk (by simp; omega)
      have En : Dr w R a m c z (p + 2) F Wn := Dr.next (D1.below ((Below.refl _ _).alloc (Nat.le_refl _) _)) hn' gn' (by omega)
      clear D1 hrn hn' gn'
      obtain ⟨q0, q1, q2, q3, q4, q5, q6, q7, ⟨c0, c1, c2, c3, c4, c5, c6, c7⟩, _⟩ := En.at8 mO
      obtain ⟨f0, f1, f2, f3, f4, f5, f6, f7⟩ := En.free8 mO
      go_wp2_with fail
      go_meet
      exact ⟨rfl, En.set ho hOR (Nat.le_refl _) (fun f hf hb _ => hFO _ ⟨v, rfl, by constructor <;> omega⟩ f hf hb)⟩
    · obtain ⟨pn, hpn, hrn⟩ := D1.rd
      have hwn := hrn.size
      go_wp2_with fail
      refine (pick R a m c z pn 4 _ (hrn.kept (World.grownBy_alloc _ _ none) (by simp)) (by omega) (by omega) (by omega)).mono ?_
      rintro e Wn ⟨y, hy, hy', rfl, hn', gn'⟩
      obtain ⟨kk, rfl⟩ := Int.eq_ofNat_of_zero_le hy
      obtain ⟨v, hv, v1, v2⟩ := tab_cell (lo := -40000) (hi := 40000) (all_of rfl) gn' hwn kk (by simp; omega)
      have En : Dr w R a m c z (p + 2) F Wn := Dr.next (D1.below ((Below.refl _ _).alloc (Nat.le_refl _) _)) hn' gn' (by omega)
      clear D1 hrn hn' gn'
      obtain ⟨q0, q1, q2, q3, q4, q5, q6, q7, ⟨c0, c1, c2, c3, c4, c5, c6, c7⟩, _⟩ := En.at8 mO
      obtain ⟨f0, f1, f2, f3, f4, f5, f6, f7⟩ := En.free8 mO
      go_wp2_with fail
      go_meet
      exact ⟨rfl, En.set ho hOR (Nat.le_refl _) (fun f hf hb _ => hFO _ ⟨v, rfl, by constructor <;> omega⟩ f hf hb)⟩
  case rest =>
    obtain ⟨rfl, D3⟩ := hcut
    clear D1
    obtain ⟨s0, s1, s2, s3, s4, s5, s6, s7, ⟨b0, b1, b2, b3, b4, b5, b6, b7⟩, ⟨j0, j1, j2, j3, j4, j5, j6, j7⟩⟩ := D3.at8 mO
    obtain ⟨q0, q1, q2, q3, q4, q5, q6, q7, ⟨a0, a1, a2, a3, a4, a5, a6, a7⟩, _⟩ := D3.at8 mI
    obtain ⟨f0, f1, f2, f3, f4, f5, f6, f7⟩ := D3.free8 mI
    obtain ⟨e0, e1, e2, e3, e4, e5, e6, e7⟩ := own8 a0 a1 a2 a3 a4 a5 a6 a7
    have bR := (D3.set8 ho hBR hBw hFB ⟨_, rfl, j0⟩ ⟨_, rfl, j1⟩ ⟨_, rfl, j2⟩ ⟨_, rfl, j3⟩ ⟨_, rfl, j4⟩ ⟨_, rfl, j5⟩ ⟨_, rfl, j6⟩ ⟨_, rfl, j7⟩)
    go_wp2_with fail
    obtain ⟨pz, hpz, hrz⟩ := bR.rd
    exact bodyPost_ret (v := .agg #[.int .i64 s0, .int .i64 s1, .int .i64 s2, .int .i64 s3, .int .i64 s4, .int .i64 s5, .int .i64 s6, .int .i64 s7]) (by simp [results, Try.results46, go_sem, e0, e1, e2, e3, e4, e5, e6, e7]) rfl ⟨_, pz, ⟨_, _, _, _, _, _, _, _, rfl, by first | assumption | (constructor <;> omega), by first | assumption | (constructor <;> omega), by first | assumption | (constructor <;> omega), by first | assumption | (constructor <;> omega), by first | assumption | (constructor <;> omega), by first | assumption | (constructor <;> omega), by first | assumption | (constructor <;> omega), by first | assumption | (constructor <;> omega)⟩, rfl, by omega, hrz, bR.grown⟩
/-- Some step was drawn, with more picks. -/
def DInsO (R : Nat) (a : Option Addr) (m c : Nat) (z : Nat → Int) (p : Nat) (w : World) (e : Ending) (w' : World) : Prop := ∃ (v : Value) (p' : Nat), IsIns v ∧ e = .returned v ∧ p' ≤ p + 200 ∧ Rd w' R a m c z p' ∧ w.grownBy w' (some R)
set_option maxRecDepth 10000 in
set_option maxHeartbeats 40000000 in
theorem insOrD (R : Nat) (a : Option Addr) (m c : Nat) (z : Nat → Int) (p : Nat) (n : Int) (w : World) (h : Rd w R a m c z p) (hp : p < 400000) (hn : 1 ≤ n) (hn2 : n < 9000) :
    Calls Try.prog 24 #[.pointer (some ⟨R, 0, none⟩), .int .i64 n] w (DInsO R a m c z p w) := by
  have hRs := h.size
  have ho := old_rd h
  have i0 : IsI (.int .i64 0) := ⟨0, rfl, by constructor <;> omega⟩
  have Da : Dr w R a m c z p [] w := ⟨⟨p, Nat.le_refl _, h⟩, grown_refl _ _, Fs.nil _ _ _⟩
  have Db := Da.new8 (t := 24) i0 i0 i0 i0 i0 i0 i0 i0
  clear Da h i0
  obtain ⟨p0, hp0, hr0⟩ := Db.rd
  go_enter Try.func24, Try.ntmps24
  go_wp2_with fail
  refine (insD R a m c z p0 4 10 _ hr0 (by omega) (by omega) (by omega) (by omega) (by omega)).mono ?_
  rintro e w1 ⟨v, p1, ⟨x0, x1, x2, x3, x4, x5, x6, x7, rfl, hx0, hx1, hx2, hx3, hx4, hx5, hx6, hx7⟩, rfl, hp1, h1, g1⟩
  have Dc := Dr.next (Q' := p + 80) Db h1 g1 (by omega)
  have Dd := Dc.new8 (t := 24) (v0 := .int .i64 x0) (v1 := .int .i64 x1) (v2 := .int .i64 x2) (v3 := .int .i64 x3) (v4 := .int .i64 x4) (v5 := .int .i64 x5) (v6 := .int .i64 x6) (v7 := .int .i64 x7) ⟨_, rfl, hx0⟩ ⟨_, rfl, hx1⟩ ⟨_, rfl, hx2⟩ ⟨_, rfl, hx3⟩ ⟨_, rfl, hx4⟩ ⟨_, rfl, hx5⟩ ⟨_, rfl, hx6⟩ ⟨_, rfl, hx7⟩
  obtain ⟨X, hX⟩ : ∃ X, X = w1.heap.size := ⟨_, rfl⟩
  have hXO : w.heap.size < X := by have := (Dc.fs ⟨w.heap.size, 0, IsI⟩ (by simp)).2.2.1; rw [hX]; exact this
  have hXR : X ≠ R := by have := h1.size; omega
  have hOR : w.heap.size ≠ R := by omega
  rw [← hX] at Dd
  have hXS : Hid (X = w1.heap.size) := hX
  clear hX Db Dc h1 g1 hr0 hx0 hx1 hx2 hx3 hx4 hx5 hx6 hx7
  obtain ⟨F, hF⟩ : ∃ F : List Sp, F = ⟨X, 0, IsI⟩ :: ⟨X, 1, IsI⟩ :: ⟨X, 2, IsI⟩ :: ⟨X, 3, IsI⟩ :: ⟨X, 4, IsI⟩ :: ⟨X, 5, IsI⟩ :: ⟨X, 6, IsI⟩ :: ⟨X, 7, IsI⟩ :: ⟨w.heap.size, 0, IsI⟩ :: ⟨w.heap.size, 1, IsI⟩ :: ⟨w.heap.size, 2, IsI⟩ :: ⟨w.heap.size, 3, IsI⟩ :: ⟨w.heap.size, 4, IsI⟩ :: ⟨w.heap.size, 5, IsI⟩ :: ⟨w.heap.size, 6, IsI⟩ :: ⟨w.heap.size, 7, IsI⟩ :: [] := ⟨_, rfl⟩
  rw [← hF] at Dd
  have mO : ∀ i, i < 8 → (⟨w.heap.size, i, IsI⟩ : Sp) ∈ F := by
    intro i hi
    rw [hF]
    rcases (show i = 0 ∨ i = 1 ∨ i = 2 ∨ i = 3 ∨ i = 4 ∨ i = 5 ∨ i = 6 ∨ i = 7 by omega) with rfl | rfl | rfl | rfl | rfl | rfl | rfl | rfl <;> simp
  have mI : ∀ i, i < 8 → (⟨X, i, IsI⟩ : Sp) ∈ F := by
    intro i hi
    rw [hF]
    rcases (show i = 0 ∨ i = 1 ∨ i = 2 ∨ i = 3 ∨ i = 4 ∨ i = 5 ∨ i = 6 ∨ i = 7 by omega) with rfl | rfl | rfl | rfl | rfl | rfl | rfl | rfl <;> simp
  have hFA : ∀ v, IsI v → ∀ f ∈ F, f.P v := by
    intro v hv f hf
    rw [hF] at hf
    simp only [List.mem_cons, List.not_mem_nil, or_false] at hf
    rcases hf with rfl | rfl | rfl | rfl | rfl | rfl | rfl | rfl | rfl | rfl | rfl | rfl | rfl | rfl | rfl | rfl <;> exact hv
  have hFX : ∀ v, IsI v → ∀ f ∈ F, f.b = X → f.P v := fun v hv f hf _ => hFA v hv f hf
  have hFO : ∀ v, IsI v → ∀ f ∈ F, f.b = w.heap.size → f.P v := fun v hv f hf _ => hFA v hv f hf
  clear hF
  obtain ⟨p2, hp2, hr2⟩ := Dd.rd
  go_wp2_with fail
  rw [← hXS.out]
  clear hXS
  refine (oddS R a m c z p2 9 _ hr2 (by omega) (by omega) (by omega)).mono ?_
  rintro e w3 ⟨od, rfl, h3, g3⟩
  have D3 : Dr w R a m c z (p + 81) F w3 := Dd.next h3 g3 (by omega)
  clear Dd hr2 h3 g3
  go_upto_if 9 with fail
  go_cut [5] (fun v W => v = .pointer (some ⟨X, 0, none⟩) ∧ Dr w R a m c z (p + 82) F W)
  case first =>
    cases od
    · go_wp2_with fail
      go_meet
      exact ⟨rfl, D3.more (by omega)⟩
    · obtain ⟨p3, hp3, hr3⟩ := D3.rd
      go_wp2_with fail
      refine (pick R a m c z p3 4 _ hr3 (by omega) (by omega) (by omega)).mono ?_
      rintro e w4 ⟨y4, hy4, hy4', rfl, h4, g4⟩
      have D4 : Dr w R a m c z (p + 82) F w4 := D3.next h4 g4 (by omega)
      clear D3 hr3 h4 g4
      obtain ⟨q0, q1, q2, q3, q4, q5, q6, q7, ⟨c0, c1, c2, c3, c4, c5, c6, c7⟩, _⟩ := D4.at8 mI
      obtain ⟨f0, f1, f2, f3, f4, f5, f6, f7⟩ := D4.free8 mI
      go_wp2_with fail
      go_meet
      exact ⟨rfl, D4.set8 ho hXR (by omega) hFX ⟨_, rfl, by constructor <;> omega⟩ ⟨_, rfl, by constructor <;> omega⟩ ⟨_, rfl, by constructor <;> omega⟩ ⟨_, rfl, by constructor <;> omega⟩ ⟨_, rfl, by constructor <;> omega⟩ ⟨_, rfl, by constructor <;> omega⟩ ⟨_, rfl, by constructor <;> omega⟩ ⟨_, rfl, by constructor <;> omega⟩⟩
  case rest =>
    obtain ⟨rfl, D5⟩ := hcut
    clear D3
    obtain ⟨p5, hp5, hr5⟩ := D5.rd
    go_wp2_with fail
    refine (oddS R a m c z p5 n _ hr5 (by omega) (by omega) (by omega)).mono ?_
    rintro e w6 ⟨od2, rfl, h6, g6⟩
    have D6 : Dr w R a m c z (p + 83) F w6 := D5.next h6 g6 (by omega)
    clear D5 hr5 h6 g6
    obtain ⟨s0, s1, s2, s3, s4, s5, s6, s7, ⟨b0, b1, b2, b3, b4, b5, b6, b7⟩, ⟨j0, j1, j2, j3, j4, j5, j6, j7⟩⟩ := D6.at8 mI
    cases od2
    · clear hXR
      obtain ⟨q0, q1, q2, q3, q4, q5, q6, q7, ⟨a0, a1, a2, a3, a4, a5, a6, a7⟩, _⟩ := D6.at8 mO
      obtain ⟨f0, f1, f2, f3, f4, f5, f6, f7⟩ := D6.free8 mO
      obtain ⟨e0, e1, e2, e3, e4, e5, e6, e7⟩ := own8 a0 a1 a2 a3 a4 a5 a6 a7
      have bR := (D6.set8 ho hOR (Nat.le_refl _) hFO ⟨_, rfl, j0⟩ ⟨_, rfl, j1⟩ ⟨_, rfl, j2⟩ ⟨_, rfl, j3⟩ ⟨_, rfl, j4⟩ ⟨_, rfl, j5⟩ ⟨_, rfl, j6⟩ ⟨_, rfl, j7⟩)
      go_wp2_with fail
      obtain ⟨pz, hpz, hrz⟩ := bR.rd
      exact bodyPost_ret (v := .agg #[.int .i64 s0, .int .i64 s1, .int .i64 s2, .int .i64 s3, .int .i64 s4, .int .i64 s5, .int .i64 s6, .int .i64 s7]) (by simp [results, Try.results24, go_sem, e0, e1, e2, e3, e4, e5, e6, e7]) rfl ⟨_, pz, ⟨_, _, _, _, _, _, _, _, rfl, by first | assumption | (constructor <;> omega), by first | assumption | (constructor <;> omega), by first | assumption | (constructor <;> omega), by first | assumption | (constructor <;> omega), by first | assumption | (constructor <;> omega), by first | assumption | (constructor <;> omega), by first | assumption | (constructor <;> omega), by first | assumption | (constructor <;> omega)⟩, rfl, by omega, hrz, bR.grown⟩
    · obtain ⟨p7, hp7, hr7⟩ := D6.rd
      go_wp2_with fail
      refine (spoilD R a m c z p7 s0 s1 s2 s3 s4 s5 s6 s7 _ hr7 (by omega) j0 j1 j2 j3 j4 j5 j6 j7).mono ?_
      rintro e w8 ⟨v, p8, ⟨r0, r1, r2, r3, r4, r5, r6, r7, rfl, k0, k1, k2, k3, k4, k5, k6, k7⟩, rfl, hp8, h8, g8⟩
      have D8 : Dr w R a m c z (p + 180) F w8 := D6.next h8 g8 (by omega)
      clear D6 hr7 h8 g8 b0 b1 b2 b3 b4 b5 b6 b7 j0 j1 j2 j3 j4 j5 j6 j7
      obtain ⟨q0, q1, q2, q3, q4, q5, q6, q7, ⟨a0, a1, a2, a3, a4, a5, a6, a7⟩, _⟩ := D8.at8 mO
      obtain ⟨f0, f1, f2, f3, f4, f5, f6, f7⟩ := D8.free8 mO
      obtain ⟨e0, e1, e2, e3, e4, e5, e6, e7⟩ := own8 a0 a1 a2 a3 a4 a5 a6 a7
      have bR := (D8.set8 ho hOR (Nat.le_refl _) hFO ⟨_, rfl, k0⟩ ⟨_, rfl, k1⟩ ⟨_, rfl, k2⟩ ⟨_, rfl, k3⟩ ⟨_, rfl, k4⟩ ⟨_, rfl, k5⟩ ⟨_, rfl, k6⟩ ⟨_, rfl, k7⟩)
      go_wp2_with fail
      obtain ⟨pz, hpz, hrz⟩ := bR.rd
      exact bodyPost_ret (v := .agg #[.int .i64 r0, .int .i64 r1, .int .i64 r2, .int .i64 r3, .int .i64 r4, .int .i64 r5, .int .i64 r6, .int .i64 r7]) (by simp [results, Try.results24, go_sem, e0, e1, e2, e3, e4, e5, e6, e7]) rfl ⟨_, pz, ⟨_, _, _, _, _, _, _, _, rfl, by first | assumption | (constructor <;> omega), by first | assumption | (constructor <;> omega), by first | assumption | (constructor <;> omega), by first | assumption | (constructor <;> omega), by first | assumption | (constructor <;> omega), by first | assumption | (constructor <;> omega), by first | assumption | (constructor <;> omega), by first | assumption | (constructor <;> omega)⟩, rfl, by omega, hrz, bR.grown⟩
end Go.Proofs.Ytehcfiihfdgokaa
