/- A drawn procedure, its bounds turned or not: DrawAbsEntry. -/
import Derived.Test.YtiehokibfdaleaaDrawPrc
import Derived.Test.YtiehokibfdaleaaDrawPair
import Derived.Test.YtiehokibfdaleaaDrawOf
import Derived.Deep.DeepCutAuto
import Derived.Deep.CutBlock
namespace Go.Proofs.Ytiehokibfdaleaa
open Go.ChangeShapes Go.WideShapes Go.ChangeAt Go.RowKit

/-- A procedure was drawn. -/
def PrcR (w : World) (e : Ending) (w' : World) : Prop := ∃ (lo hi : Int) (aa : Option Addr) (n cp : Nat), I64 lo ∧ I64 hi ∧ e = .returned (.agg #[.int .i64 lo, .int .i64 hi, .slice aa n cp]) ∧ Below w.heap.size w w'
theorem wrapI (x : Int) : I64 (wrap64 x) := by
  unfold I64 wrap64
  omega
theorem tabE {R X : Nat} {W : World} {t : TypeId} {x : Int} (hR : R < W.heap.size) (hX : X < W.heap.size) (hx : I64 x) : TabN R X 2 (.slice (some ⟨W.heap.size, 0, none⟩) 2 2) (W.alloc (.cells #[.int .i64 x, .int .i64 (-32769)] t)) := by
  refine ⟨W.heap.size, rfl, by simp, by omega, by omega, fun k hk => ?_⟩
  rcases (show k = 0 ∨ k = 1 by omega) with rfl | rfl
  · exact ⟨x, by simp [go_sem], hx⟩
  · exact ⟨-32769, by simp [go_sem], by constructor <;> omega⟩
theorem kp1 {R X i : Nat} {W : World} {v : Value} : Kp R X i W (W.setCell ⟨X, 0, none⟩ v) :=
  ⟨by simp [World.setCell], fun b o _ _ hb => World.cell?_setCell_other _ _ _ _ (fun e => hb (by injection e with e; exact e.symm))⟩
theorem Dr.new3q {w : World} {R : Nat} {a : Option Addr} {m c : Nat} {z : Nat → Int} {Q : Nat} {F : List Sp} {W : World} (h : Dr w R a m c z Q F W) {v0 v1 v2 : Value} {t : TypeId} {P0 P1 P2 : Value → Prop} (i0 : P0 v0) (i1 : P1 v1) (i2 : P2 v2) : Dr w R a m c z Q (⟨W.heap.size, 0, P0⟩ :: ⟨W.heap.size, 1, P1⟩ :: ⟨W.heap.size, 2, P2⟩ :: F) (W.alloc (.cells #[v0, v1, v2] t)) := by
  obtain ⟨p, hp, hr⟩ := h.rd
  have hR := hr.size
  have hs := h.grown.size
  refine ⟨⟨p, hp, hr.kept (World.grownBy_alloc _ _ none) (by simp)⟩, grown_trans h.grown (World.grownBy_alloc _ _ _), ?_⟩
  refine Fs.cons (by show W.heap.size ≠ R; omega) hs (by show W.heap.size < _; simp) (by simp [go_sem]) (v := v0) (by simp [go_sem]) i0 ?_
  refine Fs.cons (by show W.heap.size ≠ R; omega) hs (by show W.heap.size < _; simp) (by simp [go_sem]) (v := v1) (by simp [go_sem]) i1 ?_
  exact Fs.cons (by show W.heap.size ≠ R; omega) hs (by show W.heap.size < _; simp) (by simp [go_sem]) (v := v2) (by simp [go_sem]) i2 (h.fs.alloc _)
theorem own3q {W : World} {B : Nat} {u0 u1 u2 : Value} (k0 : W.cell? ⟨B, 0, none⟩ = some u0) (k1 : W.cell? ⟨B, 1, none⟩ = some u1) (k2 : W.cell? ⟨B, 2, none⟩ = some u2) :
    (∀ x0, (W.setCell ⟨B, 0, none⟩ x0).cell? ⟨B, 0, none⟩ = some x0) ∧ (∀ x0 x1, ((W.setCell ⟨B, 0, none⟩ x0).setCell ⟨B, 1, none⟩ x1).cell? ⟨B, 1, none⟩ = some x1) ∧ (∀ x0 x1 x2, (((W.setCell ⟨B, 0, none⟩ x0).setCell ⟨B, 1, none⟩ x1).setCell ⟨B, 2, none⟩ x2).cell? ⟨B, 2, none⟩ = some x2) :=
  ⟨fun _ => World.cell?_setCell_same _ _ _ k0, fun _ _ => World.cell?_setCell_same _ _ _ (u := u1) (by rw [World.cell?_setCell_other _ _ _ _ (by simp)]; exact k1), fun _ _ _ => World.cell?_setCell_same _ _ _ (u := u2) (by rw [World.cell?_setCell_other _ _ _ _ (by simp), World.cell?_setCell_other _ _ _ _ (by simp)]; exact k2)⟩

set_option maxRecDepth 10000 in
set_option maxHeartbeats 40000000 in
theorem drawAbsEntry (a : Option Addr) (len cap : Nat) (z : Nat → Int) (w : World) (hz : ∀ i, 0 ≤ z i ∧ z i ≤ 255) (hl : len ≤ 1048576) (h : Bytes w a len cap z) :
    Calls Try.prog 18 #[.slice a len cap] w (PrcR w) := by
  have b0 : Below w.heap.size w (w.alloc (.cells #[.int .i64 0, .int .i64 0, .slice none 0 0] 41)) := (Below.refl _ _).alloc (Nat.le_refl _) _
  go_enter Try.func18, Try.ntmps18
  go_wp2_with fail
  refine (openS2 a len cap z _ hz hl (h.kept b0)).mono ?_
  rintro e w1 ⟨m, c, hm, rfl, h1, g1⟩
  have ho := old_of h hm
  have D1 : Dr w (w.heap.size + 1) a m c z 0 [⟨w.heap.size, 0, AnyQ⟩, ⟨w.heap.size, 1, AnyQ⟩, ⟨w.heap.size, 2, AnyQ⟩] w1 := by
    have e : (w.alloc (.cells #[.int .i64 0, .int .i64 0, .slice none 0 0] 41)).heap.size = w.heap.size + 1 := by simp
    rw [e] at h1
    have g2 : (w.alloc (.cells #[.int .i64 0, .int .i64 0, .slice none 0 0] 41)).grownBy w1 (some (w.heap.size + 1)) := ⟨g1.os, g1.tape, g1.output, g1.size, fun k hk _ => g1.block k hk (by simp)⟩
    refine ⟨⟨0, Nat.le_refl _, h1⟩, grown_trans (World.grownBy_alloc _ _ _) g2, Fs.next ?_ g2⟩
    refine Fs.cons (by show w.heap.size ≠ _; omega) (Nat.le_refl _) (by show w.heap.size < _; simp) (by simp [go_sem]) (v := .int .i64 0) (by simp [go_sem]) trivial ?_
    refine Fs.cons (by show w.heap.size ≠ _; omega) (Nat.le_refl _) (by show w.heap.size < _; simp) (by simp [go_sem]) (v := .int .i64 0) (by simp [go_sem]) trivial ?_
    exact Fs.cons (by show w.heap.size ≠ _; omega) (Nat.le_refl _) (by show w.heap.size < _; simp) (by simp [go_sem]) (v := .slice none 0 0) (by simp [go_sem]) trivial (Fs.nil _ _ _)
  obtain ⟨R, hR⟩ : ∃ R, R = (w.alloc (.cells #[.int .i64 0, .int .i64 0, .slice none 0 0] 41)).heap.size := ⟨_, rfl⟩
  have hR1 : R = w.heap.size + 1 := by rw [hR]; simp
  rw [← hR1] at D1
  rw [← hR]
  have hRw : w.heap.size ≤ R := by omega
  have hTR : w.heap.size ≠ R := by omega
  have hTR2 : w.heap.size < R := by omega
  clear hR hR1 h1 g1 b0 h hm hz
  obtain ⟨p1, hp1, hr1⟩ := D1.rd
  go_wp2_with fail
  refine (procD R a m c z p1 2 _ hr1 (by omega) (by omega) (by omega)).mono ?_
  rintro e w2 ⟨lo, hi, cv, k, p2, rfl, i0, i1, hk, _, how, hp2, h2, g2⟩
  obtain ⟨k', rfl⟩ : ∃ k', k = k' + 1 := ⟨k - 1, by omega⟩
  obtain ⟨g, cp, rfl⟩ := own_form how
  have D2 := Dr.next (Q' := 20000) D1 h2 g2 (by omega)
  have hX2 : R < w2.heap.size := h2.size
  have D3 := D2.new3q (t := 41) (P0 := IsI) (P1 := IsI) (P2 := Is (.slice (some ⟨g, 0, none⟩) ((k' : Nat) + 1) cp)) (v0 := .int .i64 lo) (v1 := .int .i64 hi) (v2 := .slice (some ⟨g, 0, none⟩) (k' + 1) cp) ⟨_, rfl, i0⟩ ⟨_, rfl, i1⟩ rfl
  obtain ⟨X, hX⟩ : ∃ X, X = w2.heap.size := ⟨_, rfl⟩
  have hRX : R < X := by omega
  rw [← hX] at D3
  have hXS : Hid (X = w2.heap.size) := hX
  clear hX hX2 D1 D2 h2 g2 hr1 how
  obtain ⟨F, hF⟩ : ∃ F : List Sp, F = [⟨X, 0, IsI⟩, ⟨X, 1, IsI⟩, ⟨X, 2, Is (.slice (some ⟨g, 0, none⟩) (k' + 1) cp)⟩, ⟨w.heap.size, 0, AnyQ⟩, ⟨w.heap.size, 1, AnyQ⟩, ⟨w.heap.size, 2, AnyQ⟩] := ⟨_, rfl⟩
  rw [← hF] at D3
  have mT : ∀ i, i < 3 → (⟨w.heap.size, i, AnyQ⟩ : Sp) ∈ F := by
    intro i hi
    rw [hF]
    rcases (show i = 0 ∨ i = 1 ∨ i = 2 by omega) with rfl | rfl | rfl <;> simp
  have mX0 : (⟨X, 0, IsI⟩ : Sp) ∈ F := by rw [hF]; simp
  have mX1 : (⟨X, 1, IsI⟩ : Sp) ∈ F := by rw [hF]; simp
  have mX2 : (⟨X, 2, Is (.slice (some ⟨g, 0, none⟩) (k' + 1) cp)⟩ : Sp) ∈ F := by rw [hF]; simp
  have hXR : X ≠ R := by omega
  have hFT : ∀ v i, ∀ f ∈ F, f.b = w.heap.size → f.o = i → f.P v := by
    intro v i f hf hb _
    rw [hF] at hf
    simp only [List.mem_cons, List.not_mem_nil, or_false] at hf
    rcases hf with rfl | rfl | rfl | rfl | rfl | rfl <;> first | exact trivial | (exfalso; replace hb : X = w.heap.size := hb; omega)
  have hFX0 : ∀ v, IsI v → ∀ f ∈ F, f.b = X → f.o = 0 → f.P v := by
    intro v hv f hf hb ho'
    rw [hF] at hf
    simp only [List.mem_cons, List.not_mem_nil, or_false] at hf
    rcases hf with rfl | rfl | rfl | rfl | rfl | rfl <;> first | exact trivial | exact hv | (exfalso; simp at ho'; done)
  clear hF
  obtain ⟨p3, hp3, hr3⟩ := D3.rd
  go_wp2_with fail
  rw [← hXS.out]
  clear hXS
  refine (oddS R a m c z p3 5 _ hr3 (by omega) (by omega) (by omega)).mono ?_
  rintro e w4 ⟨od, rfl, h4, g4⟩
  have D4 : Dr w R a m c z 30001 F w4 := D3.next h4 g4 (by omega)
  clear D3 hr3 h4 g4
  go_upto_if 10 with fail
  go_cut [4] (fun v W => v = .pointer (some ⟨X, 0, none⟩) ∧ Dr w R a m c z 30100 F W)
  case first =>
    cases od
    · go_wp2_with fail
      go_meet
      exact ⟨rfl, D4.more (by omega)⟩
    · go_wp2_with fail
      refine region_inv3 [(0, 11), (1, 12), (2, 13), (3, 14), (4, 15), (5, 16), (6, 17), (7, 18), (8, 19)]
        (fun j v W => match j with
          | 0 => Is (.pointer (some ⟨X, 1, none⟩)) v
          | 1 => IsI v
          | 2 => IsI v
          | 3 => TabN R X 2 v W
          | 4 => Is (.pointer (some ⟨R, 0, none⟩)) v
          | 5 => Nt (2) v
          | 6 => Spt R X v W
          | 7 => IsI v
          | 8 => Is (.pointer (some ⟨X, 0, none⟩)) v
          | _ => True)
        (fun L W => DS w R a m c z 30001 1 10 F L W) (Kp R X)
        (by kernel_rfl) (by kernel_rfl) (by kernel_rfl) (by kernel_rfl) (by kernel_rfl) rfl (DS.start D4.drew) ?_ ?_ ?_
      · intro i j v W W' hji hφ hT
        match j, hφ with
        | 3, hφ => exact TabN.next hφ hT
        | 6, hφ => exact Spt.next hφ hT
        | 0, hφ => exact hφ
        | 1, hφ => exact hφ
        | 2, hφ => exact hφ
        | 4, hφ => exact hφ
        | 5, hφ => exact hφ
        | 7, hφ => exact hφ
        | 8, hφ => exact hφ
        | 9, hφ => exact hφ
        | _ + 10, _ => trivial
      · intro i L vals W hi' hφ hS hL hd
        have hi2 : i < 10 := hi'
        clear hi'
        have hbd := DS.bd (K := 1) (n := 10) (L := L)
        obtain ⟨p', hp', hr⟩ := hS.rd
        have hrs := hr.size
        have hXl : X < W.heap.size := (hS.fs _ mX0).2.2.1
        rcases (show i = 0 ∨ i = 1 ∨ i = 2 ∨ i = 3 ∨ i = 4 ∨ i = 5 ∨ i = 6 ∨ i = 7 ∨ i = 8 ∨ i = 9 by omega) with rfl | rfl | rfl | rfl | rfl | rfl | rfl | rfl | rfl | rfl
        · refine wpAt_of rfl rfl ?_
          simp only [frOf, Act.put]
          go_wp2_with fail
          first | exact ⟨trivial, rfl, Kp.refl _ _ _ _, hS.pure hL (by decide)⟩ | exact ⟨rfl, Kp.refl _ _ _ _, hS.pure hL (by decide)⟩
        · have k0 : vals 0 = .pointer (some ⟨X, 1, none⟩) := hφ 0 (hd 0 (by decide))
          obtain ⟨_, c1, x, rfl, hx⟩ := Dr.has hS mX1
          refine wpAt_of rfl rfl ?_
          simp only [frOf, Act.put]
          go_wp2_with fail
          first | exact ⟨trivial, ⟨_, rfl, hx⟩, Kp.refl _ _ _ _, hS.pure hL (by decide)⟩ | exact ⟨⟨_, rfl, hx⟩, Kp.refl _ _ _ _, hS.pure hL (by decide)⟩
        · obtain ⟨x, k1, hx⟩ : IsI (vals 1) := hφ 1 (hd 1 (by decide))
          refine wpAt_of rfl rfl ?_
          simp only [frOf, Act.put]
          go_wp2_with fail
          first | exact ⟨trivial, ⟨_, rfl, wrapI (x + 1)⟩, Kp.refl _ _ _ _, hS.pure hL (by decide)⟩ | exact ⟨⟨_, rfl, wrapI (x + 1)⟩, Kp.refl _ _ _ _, hS.pure hL (by decide)⟩
        · obtain ⟨x, k2, hx⟩ : IsI (vals 2) := hφ 2 (hd 2 (by decide))
          refine wpAt_of rfl rfl ?_
          simp only [frOf, Act.put]
          go_wp2_with fail
          first | exact ⟨trivial, tabE hrs hXl hx, Kp.of (World.grownBy_alloc _ _ _), DS.alloc hS hL (by decide) _⟩ | exact ⟨tabE hrs hXl hx, Kp.of (World.grownBy_alloc _ _ _), DS.alloc hS hL (by decide) _⟩
        · refine wpAt_of rfl rfl ?_
          simp only [frOf, Act.put]
          go_wp2_with fail
          first | exact ⟨trivial, rfl, Kp.refl _ _ _ _, hS.pure hL (by decide)⟩ | exact ⟨rfl, Kp.refl _ _ _ _, hS.pure hL (by decide)⟩
        · have k4 : vals 4 = .pointer (some ⟨R, 0, none⟩) := hφ 4 (hd 4 (by decide))
          refine wpAt_of rfl rfl ?_
          simp only [frOf, Act.put]
          go_wp2_with fail
          refine (pick R a m c z p' 2 _ hr (by omega) (by omega) (by omega)).mono ?_
          rintro e W' ⟨x, hx1, hx2, rfl, hR', g⟩
          go_wp2_with fail
          first | exact ⟨trivial, ⟨x, hx1, hx2, rfl⟩, Kp.of g, DS.call hS hL (by decide) hR' g (by omega)⟩ | exact ⟨⟨x, hx1, hx2, rfl⟩, Kp.of g, DS.call hS hL (by decide) hR' g (by omega)⟩
        · obtain ⟨g3, k3, t1, t2, t3, t4⟩ : TabN R X 2 (vals 3) W := hφ 3 (hd 3 (by decide))
          obtain ⟨n5, l5, h5, k5⟩ : Nt (2) (vals 5) := hφ 5 (hd 5 (by decide))
          obtain ⟨kk, rfl⟩ := Int.eq_ofNat_of_zero_le l5
          obtain ⟨y, cy, hy⟩ := t4 kk (by omega)
          have tn : ((kk : Int)).toNat = kk := by omega
          refine wpAt_of rfl rfl ?_
          simp only [frOf, Act.put]
          go_wp2_with fail
          first | exact ⟨trivial, ⟨g3, kk, rfl, t1, t2, t3, y, cy, hy⟩, Kp.refl _ _ _ _, hS.pure hL (by decide)⟩ | exact ⟨⟨g3, kk, rfl, t1, t2, t3, y, cy, hy⟩, Kp.refl _ _ _ _, hS.pure hL (by decide)⟩
        · obtain ⟨g6, j6, k6, s1, s2, s3, y6, s4, s5⟩ : Spt R X (vals 6) W := hφ 6 (hd 6 (by decide))
          refine wpAt_of rfl rfl ?_
          simp only [frOf, Act.put]
          go_wp2_with fail
          first | exact ⟨trivial, ⟨_, rfl, s5⟩, Kp.refl _ _ _ _, hS.pure hL (by decide)⟩ | exact ⟨⟨_, rfl, s5⟩, Kp.refl _ _ _ _, hS.pure hL (by decide)⟩
        · refine wpAt_of rfl rfl ?_
          simp only [frOf, Act.put]
          go_wp2_with fail
          first | exact ⟨trivial, rfl, Kp.refl _ _ _ _, hS.pure hL (by decide)⟩ | exact ⟨rfl, Kp.refl _ _ _ _, hS.pure hL (by decide)⟩
        · obtain ⟨x, k7, hx⟩ : IsI (vals 7) := hφ 7 (hd 7 (by decide))
          have k8 : vals 8 = .pointer (some ⟨X, 0, none⟩) := hφ 8 (hd 8 (by decide))
          obtain ⟨q0, c0, _⟩ := Dr.has hS mX0
          have f0 := Dr.free hS mX0
          refine wpAt_none rfl rfl ?_
          simp only [frOf, Act.put]
          go_wp2_with fail
          have s' := (DS.set hS ho hXR (by omega) (i := 0) (v := .int .i64 x) (hFX0 _ ⟨_, rfl, hx⟩)).pure hL (by decide)
          first | exact ⟨trivial, trivial, kp1, s'⟩ | exact ⟨trivial, kp1, s'⟩ | exact ⟨kp1, s'⟩
      · intro L vals W hall hφ hS
        have D8 : Dr w R a m c z 30100 F W := hS.done.more (by omega)
        clear hS hφ
        simp only [frOf, Act.put, List.setIfInBounds_toArray, List.set_cons_succ, List.set_cons_zero]
        go_wp2_with fail
        go_meet
        exact ⟨rfl, D8⟩
  case rest =>
    obtain ⟨rfl, D7⟩ := hcut
    clear D4
    obtain ⟨_, c0, x0, rfl, j0⟩ := D7.has mX0
    obtain ⟨_, c1, x1, rfl, j1⟩ := D7.has mX1
    obtain ⟨_, c2, rfl⟩ := D7.has mX2
    obtain ⟨t0, d0, _⟩ := D7.has (mT 0 (by decide))
    obtain ⟨t1, d1, _⟩ := D7.has (mT 1 (by decide))
    obtain ⟨t2, d2, _⟩ := D7.has (mT 2 (by decide))
    have f0 := D7.free (mT 0 (by decide))
    have f1 := D7.free (mT 1 (by decide))
    have f2 := D7.free (mT 2 (by decide))
    obtain ⟨e0, e1, e2⟩ := own3q d0 d1 d2
    have D8 := ((D7.set ho hTR (Nat.le_refl _) (i := 0) (v := .int .i64 x0) (hFT _ _)).set ho hTR (Nat.le_refl _) (i := 1) (v := .int .i64 x1) (hFT _ _)).set ho hTR (Nat.le_refl _) (i := 2) (v := .slice (some ⟨g, 0, none⟩) (k' + 1) cp) (hFT _ _)
    have bE := D8.below0 hRw
    clear D7 D8
    go_wp2_with fail
    exact bodyPost_ret (v := .agg #[.int .i64 x0, .int .i64 x1, .slice (some ⟨g, 0, none⟩) (k' + 1) cp]) (by simp [results, Try.results18, go_sem, e0, e1, e2]) rfl ⟨x0, x1, _, _, _, j0, j1, rfl, bE⟩
end Go.Proofs.Ytiehokibfdaleaa
