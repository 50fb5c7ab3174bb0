/- What the drawing of how two stand, and two bounds, answers; what the laws' owStands and owStood answer. -/
import Derived.Test.YtceanngbcolbaaaDrawDo
import Derived.Test.YtceanngbcolbaaaDrawOf
import Derived.Test.YtceanngbcolbaaaNums
import Derived.Deep.DeepCutAuto
import Derived.Deep.CutBlock
namespace Go.Proofs.Ytceanngbcolbaaa
open Go.ChangeShapes Go.WideShapes Go.ChangeAt Go.RowKit

theorem held2 (w : World) (a b c d : Value) (t : TypeId) : HeldL w [(w.heap.size + 1, [c, d]), (w.heap.size, [a, b])] ((w.alloc (.cells #[a, b] t)).alloc (.cells #[c, d] t)) := by
  have e1 : w.heap.size + 1 = (w.alloc (.cells #[a, b] t)).heap.size := by simp
  rw [e1]
  exact HeldL.new (HeldL.new (HeldL.nil w))
/-- Two ints in a block. -/
def C2 (B : Nat) (x y : Int) (W : World) : Prop := W.cell? ⟨B, 0, none⟩ = some (.int .i64 x) ∧ W.cell? ⟨B, 1, none⟩ = some (.int .i64 y)
theorem C2.set {B C i : Nat} {x y : Int} {W : World} {v : Value} (h : C2 B x y W) (hne : B ≠ C) : C2 B x y (W.setCell ⟨C, i, none⟩ v) :=
  ⟨(World.cell?_setCell_other _ _ _ _ (fun e => hne (by injection e with e; exact e.symm))).trans h.1, (World.cell?_setCell_other _ _ _ _ (fun e => hne (by injection e with e; exact e.symm))).trans h.2⟩
/-- What is known inside the return of a number and two bounds: the reader, the cells F; once store i (j) is done the first (second) answer's cells. -/
def RS (w : World) (R : Nat) (a : Option Addr) (m c : Nat) (z : Nat → Int) (Q : Nat) (F : List Sp) (x0 x1 y0 y1 : Int) (i j : Nat) (L : Nat → Bool) (W : World) : Prop :=
  Dr w R a m c z Q F W ∧ (L i = true → C2 w.heap.size x0 x1 W) ∧ (L j = true → C2 (w.heap.size + 1) y0 y1 W)
theorem RS.pure {w : World} {R : Nat} {a : Option Addr} {m c : Nat} {z : Nat → Int} {Q : Nat} {F : List Sp} {x0 x1 y0 y1 : Int} {i j : Nat} {L : Nat → Bool} {W : World} (h : RS w R a m c z Q F x0 x1 y0 y1 i j L W) {k : Nat} (h1 : i ≠ k) (h2 : j ≠ k) : RS w R a m c z Q F x0 x1 y0 y1 i j (upd L k true) W :=
  ⟨h.1, fun e => h.2.1 (by rwa [upd_other _ _ h1] at e), fun e => h.2.2 (by rwa [upd_other _ _ h2] at e)⟩
theorem RS.fst {w : World} {R : Nat} {a : Option Addr} {m c : Nat} {z : Nat → Int} {Q : Nat} {F : List Sp} {x0 x1 y0 y1 : Int} {i j : Nat} {L : Nat → Bool} {W : World} (h : RS w R a m c z Q F x0 x1 y0 y1 i j L W) (ho : Old w a m) (hR : w.heap.size ≠ R) (hF : ∀ v, IsI v → ∀ f ∈ F, f.b = w.heap.size ∨ f.b = w.heap.size + 1 → f.P v) {u v : Value} (k0 : W.cell? ⟨w.heap.size, 0, none⟩ = some u) (k1 : W.cell? ⟨w.heap.size, 1, none⟩ = some v) (hx : I64 x0) (hy : I64 x1) (hij : j ≠ i) : RS w R a m c z Q F x0 x1 y0 y1 i j (upd L i true) ((W.setCell ⟨w.heap.size, 0, none⟩ (.int .i64 x0)).setCell ⟨w.heap.size, 1, none⟩ (.int .i64 x1)) := by
  obtain ⟨e0, e1⟩ := own2 k0 k1
  refine ⟨(h.1.set ho hR (Nat.le_refl _) (fun f hf hb _ => hF _ ⟨_, rfl, hx⟩ f hf (.inl hb))).set ho hR (Nat.le_refl _) (fun f hf hb _ => hF _ ⟨_, rfl, hy⟩ f hf (.inl hb)), fun _ => ⟨?_, e1 _ _⟩, fun e => ?_⟩
  · rw [World.cell?_setCell_other _ _ _ _ (by simp)]; exact e0 _
  · exact ((h.2.2 (by rwa [upd_other _ _ hij] at e)).set (by omega)).set (by omega)
theorem RS.snd {w : World} {R : Nat} {a : Option Addr} {m c : Nat} {z : Nat → Int} {Q : Nat} {F : List Sp} {x0 x1 y0 y1 : Int} {i j : Nat} {L : Nat → Bool} {W : World} (h : RS w R a m c z Q F x0 x1 y0 y1 i j L W) (ho : Old w a m) (hR : w.heap.size + 1 ≠ R) (hF : ∀ v, IsI v → ∀ f ∈ F, f.b = w.heap.size ∨ f.b = w.heap.size + 1 → f.P v) {u v : Value} (k0 : W.cell? ⟨w.heap.size + 1, 0, none⟩ = some u) (k1 : W.cell? ⟨w.heap.size + 1, 1, none⟩ = some v) (hx : I64 y0) (hy : I64 y1) (hij : i ≠ j) : RS w R a m c z Q F x0 x1 y0 y1 i j (upd L j true) ((W.setCell ⟨w.heap.size + 1, 0, none⟩ (.int .i64 y0)).setCell ⟨w.heap.size + 1, 1, none⟩ (.int .i64 y1)) := by
  obtain ⟨e0, e1⟩ := own2 k0 k1
  refine ⟨(h.1.set ho hR (Nat.le_succ _) (fun f hf hb _ => hF _ ⟨_, rfl, hx⟩ f hf (.inr hb))).set ho hR (Nat.le_succ _) (fun f hf hb _ => hF _ ⟨_, rfl, hy⟩ f hf (.inr hb)), fun e => ?_, fun _ => ⟨?_, e1 _ _⟩⟩
  · exact ((h.2.1 (by rwa [upd_other _ _ hij] at e)).set (by omega)).set (by omega)
  · rw [World.cell?_setCell_other _ _ _ _ (by simp)]; exact e0 _
/-- What a drawing of a number and two bounds answers. -/
def DRel (w : World) (e : Ending) (w' : World) : Prop := ∃ op x0 x1 y0 y1 : Int, I64 op ∧ I64 x0 ∧ I64 x1 ∧ I64 y0 ∧ I64 y1 ∧ e = .returned (.tuple #[.int .i64 op, .agg #[.int .i64 x0, .int .i64 x1], .agg #[.int .i64 y0, .int .i64 y1]]) ∧ Below w.heap.size w w'
set_option maxRecDepth 10000 in
set_option maxHeartbeats 8000000 in
theorem drawItvRel (a : Option Addr) (len cap : Nat) (z : Nat → Int) (w : World) (hz : ∀ i, 0 ≤ z i ∧ z i ≤ 255) (hl : len ≤ 1048576) (h : Bytes w a len cap z) :
    Calls Try.prog 20 #[.slice a len cap] w (DRel w) := by
  have b0 : Below w.heap.size w ((w.alloc (.cells #[.int .i64 0, .int .i64 0] 24)).alloc (.cells #[.int .i64 0, .int .i64 0] 24)) := by
    repeat (first | exact Below.refl _ _ | refine Below.alloc ?_ (by simp; try omega) _)
  go_enter Try.func20, Try.ntmps20
  go_wp2_with fail
  refine (openS2 a len cap z _ hz hl (h.kept b0)).mono ?_
  rintro e w1 ⟨m, c, hm, rfl, h1, g1⟩
  have ho := old_of h hm
  have D1 := dr_open2 h1 g1
  obtain ⟨R, hR⟩ : ∃ R, R = ((w.alloc (.cells #[.int .i64 0, .int .i64 0] 24)).alloc (.cells #[.int .i64 0, .int .i64 0] 24)).heap.size := ⟨_, rfl⟩
  have hR1 : R = w.heap.size + 1 + 1 := by rw [hR]; simp
  rw [← hR1] at D1
  rw [← hR]
  have hRw : w.heap.size ≤ R := by omega
  have hRa : w.heap.size ≠ R := by omega
  have hRb : w.heap.size + 1 ≠ R := by omega
  obtain ⟨FF, hF⟩ : ∃ F : List Sp, F = [⟨w.heap.size, 0, IsI⟩, ⟨w.heap.size, 1, IsI⟩, ⟨w.heap.size + 1, 0, IsI⟩, ⟨w.heap.size + 1, 1, IsI⟩] := ⟨_, rfl⟩
  rw [← hF] at D1
  have hFS : Hid (FF = [⟨w.heap.size, 0, IsI⟩, ⟨w.heap.size, 1, IsI⟩, ⟨w.heap.size + 1, 0, IsI⟩, ⟨w.heap.size + 1, 1, IsI⟩]) := hF
  clear hR hR1 hF h1 g1 h hz b0 hm
  obtain ⟨p1, hp1, hr1⟩ := D1.rd
  have hRlt := hr1.size
  go_wp2_with fail
  refine (pick R a m c z p1 4 _ hr1 (by omega) (by omega) (by omega)).mono ?_
  rintro e w2 ⟨y2, hy1, hy2, rfl, h2, g2⟩
  have D2 : Dr w R a m c z 1 FF w2 := D1.next h2 g2 (by omega)
  clear D1 h2 g2 hr1
  obtain ⟨p2, hp2, hr2⟩ := D2.rd
  go_wp2_with fail
  refine (oddS R a m c z p2 20 _ hr2 (by omega) (by omega) (by omega)).mono ?_
  rintro e w3 ⟨od, rfl, h3, g3⟩
  have D3 : Dr w R a m c z 2 FF w3 := D2.next h3 g3 (by omega)
  have hw3 : R < w3.heap.size := h3.size
  clear D2 h3 g3 hr2
  obtain ⟨op0, hop0⟩ : ∃ op, 1 + y2 = op := ⟨_, rfl⟩
  have hoS : Hid (1 + y2 = op0) := hop0
  have oo : I64 op0 := ⟨by omega, by omega⟩
  clear hop0
  go_upto_if 15 with fail
  go_cut [6] (fun p W => ∃ op, I64 op ∧ p = .int .i64 op ∧ Dr w R a m c z 3 FF W)
  case first =>
    cases od
    · go_wp2_with fail
      go_meet
      exact ⟨op0, oo, by rw [← hoS.out], D3.more (by omega)⟩
    · obtain ⟨p3, hp3, hr3⟩ := D3.rd
      go_wp2_with fail
      refine (pick R a m c z p3 3 _ (hr3.kept (World.grownBy_alloc _ _ none) (by simp)) (by omega) (by omega) (by omega)).mono ?_
      rintro e w4 ⟨y4, hy3, hy4, rfl, h4, g4⟩
      obtain ⟨kk, rfl⟩ := Int.eq_ofNat_of_zero_le hy3
      obtain ⟨op, hv, o1, o2⟩ := tab_cell (lo := -1) (hi := 5) (all_of rfl) g4 hw3 kk (by simp; omega)
      have D4 : Dr w R a m c z 3 FF w4 := Dr.next (D3.below ((Below.refl _ _).alloc (Nat.le_refl _) _)) h4 g4 (by omega)
      clear hr3 h4
      go_wp2_with fail
      go_meet
      exact ⟨op, ⟨by omega, by omega⟩, rfl, D4⟩
  case rest =>
    obtain ⟨op, hop, rfl, D4⟩ := hcut
    clear D3 hoS oo hw3
    obtain ⟨p4, hp4, hr4⟩ := D4.rd
    have hw4 := hr4.size
    go_wp2_with fail
    refine (itvD R a m c z p4 20 _ hr4 (by omega) (by omega) (by omega)).mono ?_
    rintro e w5 ⟨x0, x1, p5, hx0, hx1, rfl, hp5, h5, g5⟩
    have D5 : Dr w R a m c z 30 FF w5 := D4.next h5 g5 (by omega)
    have D6 := D5.new (P := IsV (.int .i64 x0)) (P' := IsV (.int .i64 x1)) (x := .int .i64 x0) (y := .int .i64 x1) (t := 24) rfl rfl
    obtain ⟨X, hX⟩ : ∃ X, X = w5.heap.size := ⟨_, rfl⟩
    have hs5 := g5.size
    have hXR : R < X := by omega
    rw [← hX] at D6
    have hXS : Hid (X = w5.heap.size) := hX
    clear hX D5 D4 h5 g5 hr4 hs5
    obtain ⟨p6, hp6, hr6⟩ := D6.rd
    have hXw : X < (w5.alloc (.cells #[.int .i64 x0, .int .i64 x1] 24)).heap.size := by rw [hXS.out]; simp
    go_wp2_with fail
    rw [← hXS.out]
    clear hXS
    refine (itvD R a m c z p6 20 _ hr6 (by omega) (by omega) (by omega)).mono ?_
    rintro e w6 ⟨y0, y1, p7, hy0, hy1, rfl, hp7, h6, g6⟩
    have D7 := Dr.next (Q' := 60) D6 h6 g6 (by omega)
    have D8 := D7.new (P := IsI) (P' := IsI) (x := .int .i64 y0) (y := .int .i64 y1) (t := 24) ⟨_, rfl, hy0⟩ ⟨_, rfl, hy1⟩
    obtain ⟨Y, hY⟩ : ∃ Y, Y = w6.heap.size := ⟨_, rfl⟩
    have hs6 := g6.size
    have hXY : X < Y := by omega
    rw [← hY] at D8
    have hYS : Hid (Y = w6.heap.size) := hY
    clear hY D7 D6 h6 g6 hr6 hs6 hXw
    obtain ⟨p8, hp8, hr8⟩ := D8.rd
    have c80 : (w6.alloc (.cells #[.int .i64 y0, .int .i64 y1] 24)).cell? ⟨Y, 0, none⟩ = some (.int .i64 y0) := by rw [hYS.out]; simp [go_sem]
    have c81 : (w6.alloc (.cells #[.int .i64 y0, .int .i64 y1] 24)).cell? ⟨Y, 1, none⟩ = some (.int .i64 y1) := by rw [hYS.out]; simp [go_sem]
    have hw8 : Y < (w6.alloc (.cells #[.int .i64 y0, .int .i64 y1] 24)).heap.size := by rw [hYS.out]; simp
    go_wp2_with fail
    rw [← hYS.out]
    clear hYS
    refine (pick R a m c z p8 4 _ hr8 (by omega) (by omega) (by omega)).mono ?_
    rintro e w9 ⟨y9, hy9, hy9', rfl, h9, g9⟩
    obtain ⟨hc, hf⟩ := gcell g9
    have c90 := (hc Y 0 hw8 (by omega)).trans c80
    have c91 := (hc Y 1 hw8 (by omega)).trans c81
    have D9 := Dr.next (Q' := 61) D8 h9 g9 (by omega)
    clear D8 h9 g9 hr8 c80 c81 hw8 hc hf
    obtain ⟨G, hG⟩ : ∃ G : List Sp, G = ⟨Y, 0, IsI⟩ :: ⟨Y, 1, IsI⟩ :: ⟨X, 0, IsV (.int .i64 x0)⟩ :: ⟨X, 1, IsV (.int .i64 x1)⟩ :: FF := ⟨_, rfl⟩
    rw [← hG] at D9
    have mX0 : (⟨X, 0, IsV (.int .i64 x0)⟩ : Sp) ∈ G := by rw [hG]; simp
    have mX1 : (⟨X, 1, IsV (.int .i64 x1)⟩ : Sp) ∈ G := by rw [hG]; simp
    have mY0 : (⟨Y, 0, IsI⟩ : Sp) ∈ G := by rw [hG]; simp
    have mY1 : (⟨Y, 1, IsI⟩ : Sp) ∈ G := by rw [hG]; simp
    have mA0 : (⟨w.heap.size, 0, IsI⟩ : Sp) ∈ G := by rw [hG, hFS.out]; simp
    have mA1 : (⟨w.heap.size, 1, IsI⟩ : Sp) ∈ G := by rw [hG, hFS.out]; simp
    have mB0 : (⟨w.heap.size + 1, 0, IsI⟩ : Sp) ∈ G := by rw [hG, hFS.out]; simp
    have mB1 : (⟨w.heap.size + 1, 1, IsI⟩ : Sp) ∈ G := by rw [hG, hFS.out]; simp
    have hGP : ∀ v, IsI v → ∀ f ∈ G, f.b = w.heap.size ∨ f.b = w.heap.size + 1 → f.P v := by
      intro v hv f hf hb
      rw [hG, hFS.out] at hf
      simp only [List.mem_cons, List.not_mem_nil, or_false] at hf
      rcases hf with rfl | rfl | rfl | rfl | rfl | rfl | rfl | rfl
      · dsimp only at hb; omega
      · dsimp only at hb; omega
      · dsimp only at hb; omega
      · dsimp only at hb; omega
      all_goals exact hv
    have hGY : ∀ v, IsI v → ∀ f ∈ G, f.b = Y → f.P v := by
      intro v hv f hf hb
      rw [hG, hFS.out] at hf
      simp only [List.mem_cons, List.not_mem_nil, or_false] at hf
      rcases hf with rfl | rfl | rfl | rfl | rfl | rfl | rfl | rfl
      · exact hv
      · exact hv
      · dsimp only at hb; omega
      · dsimp only at hb; omega
      all_goals exact hv
    clear hG hFS
    obtain ⟨v0, a0, rfl⟩ := D9.has mX0
    obtain ⟨v1, a1, rfl⟩ := D9.has mX1
    have f0 := D9.free mY0
    have f1 := D9.free mY1
    dsimp only at a0 a1 f0 f1
    obtain ⟨n0, n1⟩ := own2 c90 c91
    go_upto_block 0 with fail
    go_cut [8] (fun p W => p = .pointer (some ⟨Y, 0, none⟩) ∧ ∃ y0 y1, I64 y0 ∧ I64 y1 ∧ C2 Y y0 y1 W ∧ Dr w R a m c z 61 G W)
    case first =>
      by_cases e0 : y9 = 0
      · subst e0
        go_wp2_with fail
        go_meet
        refine ⟨rfl, x0, x1, hx0, hx1, ⟨?_, n1 _ _⟩, (D9.set ho (by omega) (by omega) (fun f hf hb _ => hGY _ ⟨_, rfl, hx0⟩ f hf hb)).set ho (by omega) (by omega) (fun f hf hb _ => hGY _ ⟨_, rfl, hx1⟩ f hf hb)⟩
        rw [World.cell?_setCell_other _ _ _ _ (by simp)]; exact n0 _
      · have e0' : (y9 == 0) = false := by simp [e0]
        by_cases e1 : y9 = 1
        · subst e1
          go_wp2_with fail
          go_meet
          refine ⟨rfl, x1, x1, hx1, hx1, ⟨?_, n1 _ _⟩, (D9.set ho (by omega) (by omega) (fun f hf hb _ => hGY _ ⟨_, rfl, hx1⟩ f hf hb)).set ho (by omega) (by omega) (fun f hf hb _ => hGY _ ⟨_, rfl, hx1⟩ f hf hb)⟩
          rw [World.cell?_setCell_other _ _ _ _ (by simp)]; exact n0 _
        · have e1' : (y9 == 1) = false := by simp [e1]
          go_wp2_with fail
          go_meet
          exact ⟨rfl, y0, y1, hy0, hy1, ⟨c90, c91⟩, D9⟩
    case rest =>
      obtain ⟨rfl, u0, u1, hu0, hu1, hC, D10⟩ := hcut
      clear a0 a1 f0 f1 n0 n1 c90 c91 D9
      obtain ⟨G', hG'⟩ : ∃ G' : List Sp, G' = ⟨Y, 0, IsV (.int .i64 u0)⟩ :: ⟨Y, 1, IsV (.int .i64 u1)⟩ :: G := ⟨_, rfl⟩
      have D11 : Dr w R a m c z 61 G' wc := by
        rw [hG']
        obtain ⟨q1, q2, q3, q4, _⟩ := D10.fs _ mY0
        obtain ⟨r1, r2, r3, r4, _⟩ := D10.fs _ mY1
        exact ⟨D10.rd, D10.grown, Fs.cons q1 q2 q3 q4 hC.1 rfl (Fs.cons r1 r2 r3 r4 hC.2 rfl D10.fs)⟩
      have hGP' : ∀ v, IsI v → ∀ f ∈ G', f.b = w.heap.size ∨ f.b = w.heap.size + 1 → f.P v := by
        intro v hv f hf hb
        rw [hG'] at hf
        simp only [List.mem_cons] at hf
        rcases hf with rfl | rfl | hf
        · dsimp only at hb; omega
        · dsimp only at hb; omega
        · exact hGP v hv f hf hb
      have mY0' : (⟨Y, 0, IsV (.int .i64 u0)⟩ : Sp) ∈ G' := by rw [hG']; simp
      have mY1' : (⟨Y, 1, IsV (.int .i64 u1)⟩ : Sp) ∈ G' := by rw [hG']; simp
      have up : ∀ f, f ∈ G → f ∈ G' := fun f hf => by rw [hG']; simp [hf]
      have hS0 : RS w R a m c z 61 G' x0 x1 u0 u1 4 5 (fun _ => false) wc.drew := ⟨D11.drew, by simp, by simp⟩
      clear hG' D10 hC D11 hGP hGY
      go_wp2_with fail
      refine region_inv3 [(0, 37), (1, 38), (2, 39), (3, 2)]
        (fun j v _ => match j with
          | 0 => Is (.int .i64 op) v
          | 1 => Is (.agg #[.int .i64 x0, .int .i64 x1]) v
          | 2 => Is (.agg #[.int .i64 u0, .int .i64 u1]) v
          | 3 => Is (.int .i64 op) v
          | _ => True)
        (RS w R a m c z 61 G' x0 x1 u0 u1 4 5) TT
        (by kernel_rfl) (by kernel_rfl) (by kernel_rfl) (by kernel_rfl) (by kernel_rfl) rfl hS0 (fun i j v W W' _ h _ => h) ?_ ?_
      · intro i L vals W hi' hφ hS hL hd
        have hi2 : i < 6 := hi'
        clear hi'
        rcases (show i = 0 ∨ i = 1 ∨ i = 2 ∨ i = 3 ∨ i = 4 ∨ i = 5 by omega) with rfl | rfl | rfl | rfl | rfl | rfl
        · refine wpAt_of rfl rfl ?_
          simp only [frOf, Act.put]
          go_wp2_with fail
          first | exact ⟨trivial, rfl, trivial, hS.pure (by decide) (by decide)⟩ | exact ⟨rfl, trivial, hS.pure (by decide) (by decide)⟩
        · obtain ⟨v0, a0, rfl⟩ := hS.1.has (up _ mX0)
          obtain ⟨v1, a1, rfl⟩ := hS.1.has (up _ mX1)
          dsimp only at a0 a1
          refine wpAt_of rfl rfl ?_
          simp only [frOf, Act.put]
          go_wp2_with fail
          first | exact ⟨trivial, rfl, trivial, hS.pure (by decide) (by decide)⟩ | exact ⟨rfl, trivial, hS.pure (by decide) (by decide)⟩
        · obtain ⟨v0, a0, rfl⟩ := hS.1.has mY0'
          obtain ⟨v1, a1, rfl⟩ := hS.1.has mY1'
          dsimp only at a0 a1
          refine wpAt_of rfl rfl ?_
          simp only [frOf, Act.put]
          go_wp2_with fail
          first | exact ⟨trivial, rfl, trivial, hS.pure (by decide) (by decide)⟩ | exact ⟨rfl, trivial, hS.pure (by decide) (by decide)⟩
        · have k0 : vals 0 = .int .i64 op := hφ 0 (hd 0 (by decide))
          refine wpAt_of rfl rfl ?_
          simp only [frOf, Act.put]
          go_wp2_with fail
          first | exact ⟨trivial, rfl, trivial, hS.pure (by decide) (by decide)⟩ | exact ⟨rfl, trivial, hS.pure (by decide) (by decide)⟩
        · have k1 : vals 1 = .agg #[.int .i64 x0, .int .i64 x1] := hφ 1 (hd 1 (by decide))
          obtain ⟨v0, a0, -⟩ := hS.1.has (up _ mA0)
          obtain ⟨v1, a1, -⟩ := hS.1.has (up _ mA1)
          have f0 := hS.1.free (up _ mA0)
          have f1 := hS.1.free (up _ mA1)
          dsimp only at a0 a1 f0 f1
          refine wpAt_none rfl rfl ?_
          simp only [frOf, Act.put]
          go_wp2_with fail
          first | exact ⟨trivial, trivial, trivial, hS.fst ho hRa hGP' a0 a1 hx0 hx1 (by decide)⟩ | exact ⟨trivial, trivial, hS.fst ho hRa hGP' a0 a1 hx0 hx1 (by decide)⟩ | exact ⟨trivial, hS.fst ho hRa hGP' a0 a1 hx0 hx1 (by decide)⟩
        · have k1 : vals 2 = .agg #[.int .i64 u0, .int .i64 u1] := hφ 2 (hd 2 (by decide))
          obtain ⟨v0, a0, -⟩ := hS.1.has (up _ mB0)
          obtain ⟨v1, a1, -⟩ := hS.1.has (up _ mB1)
          have f0 := hS.1.free (up _ mB0)
          have f1 := hS.1.free (up _ mB1)
          dsimp only at a0 a1 f0 f1
          refine wpAt_none rfl rfl ?_
          simp only [frOf, Act.put]
          go_wp2_with fail
          first | exact ⟨trivial, trivial, trivial, hS.snd ho hRb hGP' a0 a1 hu0 hu1 (by decide)⟩ | exact ⟨trivial, trivial, hS.snd ho hRb hGP' a0 a1 hu0 hu1 (by decide)⟩ | exact ⟨trivial, hS.snd ho hRb hGP' a0 a1 hu0 hu1 (by decide)⟩
      · intro L vals W hall hφ hS
        obtain ⟨d0, d1⟩ := hS.2.1 (hall 4 (by decide))
        obtain ⟨d2, d3⟩ := hS.2.2 (hall 5 (by decide))
        have k3 : vals 3 = .int .i64 op := hφ 3 (by decide)
        have bE := hS.1.below2 hRw
        simp only [frOf, Act.put]
        go_wp2_with fail
        exact bodyPost_ret (v := .tuple #[.int .i64 op, .agg #[.int .i64 x0, .int .i64 x1], .agg #[.int .i64 u0, .int .i64 u1]]) (by simp [results, Try.results20, go_sem, d0, d1, d2, d3, k3]) rfl ⟨op, x0, x1, u0, u1, hop, hx0, hx1, hu0, hu1, rfl, bE⟩
set_option maxRecDepth 10000 in
set_option maxHeartbeats 4000000 in
theorem drawItvNot (a : Option Addr) (len cap : Nat) (z : Nat → Int) (w : World) (hz : ∀ i, 0 ≤ z i ∧ z i ≤ 255) (hl : len ≤ 1048576) (h : Bytes w a len cap z) :
    Calls Try.prog 25 #[.slice a len cap] w (DRel w) := by
  have H0 := held2 w (.int .i64 0) (.int .i64 0) (.int .i64 0) (.int .i64 0) 24
  go_enter Try.func25, Try.ntmps25
  go_wp2_with fail
  refine (drawItvRel a len cap z _ hz hl (h.kept H0.below)).mono ?_
  rintro e w1 ⟨op, x0, x1, y0, y1, hop, hx0, hx1, hy0, hy1, rfl, b1⟩
  have H1 := H0.next b1
  have mB := List.mem_cons_self (a := (w.heap.size + 1, [Value.int .i64 0, .int .i64 0])) (l := [(w.heap.size, [Value.int .i64 0, .int .i64 0])])
  have mA : (w.heap.size, [Value.int .i64 0, .int .i64 0]) ∈ [(w.heap.size + 1, [Value.int .i64 0, .int .i64 0]), (w.heap.size, [Value.int .i64 0, .int .i64 0])] := by simp
  have d0 := H1.cell mA (i := 0) rfl
  have d1 := H1.cell mA (i := 1) rfl
  have d2 := H1.cell mB (i := 0) rfl
  have d3 := H1.cell mB (i := 1) rfl
  have fa : ∀ i, w1.frozen? ⟨w.heap.size, i, none⟩ = false := H1.free _ mA
  have fb : ∀ i, w1.frozen? ⟨w.heap.size + 1, i, none⟩ = false := H1.free _ mB
  dsimp only at d0 d1 d2 d3
  obtain ⟨e0, e1⟩ := own2 d0 d1
  obtain ⟨e2, e3⟩ := own4 (B := w.heap.size) (by omega) d2 d3
  have bE := H1.below
  clear H0 H1 b1
  go_wp2_with fail
  refine bodyPost_ret (v := .tuple #[.int .i64 op, .agg #[.int .i64 x0, .int .i64 x1], .agg #[.int .i64 y0, .int .i64 y1]]) (by simp [results, Try.results25, go_sem, e0, e1, e2, e3]) rfl ⟨op, x0, x1, y0, y1, hop, hx0, hx1, hy0, hy1, rfl, ?_⟩
  repeat (first | exact bE | refine Below.setCell ?_ (by simp; try omega) _)
set_option maxHeartbeats 4000000 in
theorem owStandsI (rel n a b : Int) (w : World) :
    Calls Try.prog 23 #[.int .i64 rel, .int .i64 n, .agg #[.int .i64 a, .int .i64 b]] w fun e w' => e = .returned (.bool (relB rel n a || relB rel n b)) ∧ Below w.heap.size w w' := by
  go_enter Try.func23, Try.ntmps23
  go_wp2_with fail
  refine (relI _ _ _ _).mono ?_
  rintro e w1 ⟨rfl, rfl⟩
  cases h : relB rel n a
  · go_wp2_with fail
    refine (relI _ _ _ _).mono ?_
    rintro e w1 ⟨rfl, rfl⟩
    go_wp2_with fail
    go_ret
    exact ⟨ret_bool (by simp [h]), Below.alloc (Below.refl _ _) (Nat.le_refl _) _⟩
  · go_wp2_with fail
    go_ret
    exact ⟨ret_bool (by simp [h]), Below.alloc (Below.refl _ _) (Nat.le_refl _) _⟩
set_option maxHeartbeats 4000000 in
theorem owStoodI (rel n a b : Int) (w : World) :
    Calls Try.prog 24 #[.int .i64 rel, .agg #[.int .i64 a, .int .i64 b], .int .i64 n] w fun e w' => e = .returned (.bool (relB rel a n || relB rel b n)) ∧ Below w.heap.size w w' := by
  go_enter Try.func24, Try.ntmps24
  go_wp2_with fail
  refine (relI _ _ _ _).mono ?_
  rintro e w1 ⟨rfl, rfl⟩
  cases h : relB rel a n
  · go_wp2_with fail
    refine (relI _ _ _ _).mono ?_
    rintro e w1 ⟨rfl, rfl⟩
    go_wp2_with fail
    go_ret
    exact ⟨ret_bool (by simp [h]), Below.alloc (Below.refl _ _) (Nat.le_refl _) _⟩
  · go_wp2_with fail
    go_ret
    exact ⟨ret_bool (by simp [h]), Below.alloc (Below.refl _ _) (Nat.le_refl _) _⟩
end Go.Proofs.Ytceanngbcolbaaa
