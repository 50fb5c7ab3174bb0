/- Two drawn states, one way round or the other: DrawAbsWide. · A region that draws its order, by an invariant that also speaks of the values: for regions that make memory and store into it. A new block of two cells (NewB). No program in it. · A new block of any number of cells that a region makes and fills (NewL), for region_inv4. No program in it. · What an exact law holds: its boxes, and that nothing behind a certain world has turned. No program in it. -/
import Derived.Test.YtiehokibfdaleaaDoorG10
import Derived.Test.YtiehokibfdaleaaDoorG2
import Derived.Test.YtiehokibfdaleaaDoorG8
import Derived.Test.YtiehokibfdaleaaDoorG1
import Derived.Test.YtiehokibfdaleaaDoorG3
namespace Go.Proofs.YtiehokibfdaleaaDoor
open Go.ChangeShapes Go.WideShapes Go.ChangeAt Go.RowKit
set_option linter.unusedVariables false

/-- Two boxes, T and U, that operations 2 and 3 fill. -/
structure TwoH (w V : World) (T U : Nat) (x0 x1 x2 x3 y0 y1 y2 y3 a b : Value) (L : Nat → Bool) (W : World) : Prop where
  kp : ∀ b, b ≠ T → b ≠ U → W.heap[b]? = V.heap[b]?
  fz : ∀ b i, W.frozen? ⟨b, i, none⟩ = V.frozen? ⟨b, i, none⟩
  t0 : L 2 = false → W.heap[T]? = V.heap[T]?
  t1 : L 2 = true → W.cell? ⟨T, 0, none⟩ = some x0 ∧ W.cell? ⟨T, 1, none⟩ = some x1 ∧ W.cell? ⟨T, 2, none⟩ = some x2 ∧ W.cell? ⟨T, 3, none⟩ = some x3
  u0 : L 3 = false → W.heap[U]? = V.heap[U]?
  u1 : L 3 = true → W.cell? ⟨U, 0, none⟩ = some y0 ∧ W.cell? ⟨U, 1, none⟩ = some y1 ∧ W.cell? ⟨U, 2, none⟩ = some y2 ∧ W.cell? ⟨U, 3, none⟩ = some y3
  be : Below w.heap.size w W
  da : StD (w.heap.size + 2) a W
  db : StD (w.heap.size + 2) b W
theorem TwoH.pure {w V : World} {T U : Nat} {x0 x1 x2 x3 y0 y1 y2 y3 a b : Value} {L : Nat → Bool} {W : World} (h : TwoH w V T U x0 x1 x2 x3 y0 y1 y2 y3 a b L W) {i : Nat} (h2 : i ≠ 2) (h3 : i ≠ 3) : TwoH w V T U x0 x1 x2 x3 y0 y1 y2 y3 a b (upd L i true) W := by
  refine ⟨h.kp, h.fz, fun e => h.t0 ?_, fun e => h.t1 ?_, fun e => h.u0 ?_, fun e => h.u1 ?_, h.be, h.da, h.db⟩
  · rwa [upd_other _ _ (Ne.symm h2)] at e
  · rwa [upd_other _ _ (Ne.symm h2)] at e
  · rwa [upd_other _ _ (Ne.symm h3)] at e
  · rwa [upd_other _ _ (Ne.symm h3)] at e
theorem four {W : World} {U : Nat} {v0 v1 v2 v3 q0 q1 q2 q3 : Value} (c0 : W.cell? ⟨U, 0, none⟩ = some q0) (c1 : W.cell? ⟨U, 1, none⟩ = some q1) (c2 : W.cell? ⟨U, 2, none⟩ = some q2) (c3 : W.cell? ⟨U, 3, none⟩ = some q3) :
    ((((W.setCell ⟨U, 0, none⟩ v0).setCell ⟨U, 1, none⟩ v1).setCell ⟨U, 2, none⟩ v2).setCell ⟨U, 3, none⟩ v3).cell? ⟨U, 0, none⟩ = some v0 ∧ ((((W.setCell ⟨U, 0, none⟩ v0).setCell ⟨U, 1, none⟩ v1).setCell ⟨U, 2, none⟩ v2).setCell ⟨U, 3, none⟩ v3).cell? ⟨U, 1, none⟩ = some v1 ∧ ((((W.setCell ⟨U, 0, none⟩ v0).setCell ⟨U, 1, none⟩ v1).setCell ⟨U, 2, none⟩ v2).setCell ⟨U, 3, none⟩ v3).cell? ⟨U, 2, none⟩ = some v2 ∧ ((((W.setCell ⟨U, 0, none⟩ v0).setCell ⟨U, 1, none⟩ v1).setCell ⟨U, 2, none⟩ v2).setCell ⟨U, 3, none⟩ v3).cell? ⟨U, 3, none⟩ = some v3 := by
  obtain ⟨e0, e1, e2, e3⟩ := own4q c0 c1 c2 c3
  refine ⟨?_, ?_, ?_, e3 _ _ _ _⟩
  · rw [World.cell?_setCell_other _ _ _ _ (by simp), World.cell?_setCell_other _ _ _ _ (by simp), World.cell?_setCell_other _ _ _ _ (by simp)]
    exact e0 _
  · rw [World.cell?_setCell_other _ _ _ _ (by simp), World.cell?_setCell_other _ _ _ _ (by simp)]
    exact e1 _ _
  · rw [World.cell?_setCell_other _ _ _ _ (by simp)]
    exact e2 _ _ _
theorem TwoH.putT {w V : World} {T U : Nat} {x0 x1 x2 x3 y0 y1 y2 y3 a b : Value} {L : Nat → Bool} {W : World} (h : TwoH w V T U x0 x1 x2 x3 y0 y1 y2 y3 a b L W) {q0 q1 q2 q3 : Value} (c0 : W.cell? ⟨T, 0, none⟩ = some q0) (c1 : W.cell? ⟨T, 1, none⟩ = some q1) (c2 : W.cell? ⟨T, 2, none⟩ = some q2) (c3 : W.cell? ⟨T, 3, none⟩ = some q3) (hT : w.heap.size ≤ T ∧ T < w.heap.size + 2) (hU : w.heap.size ≤ U ∧ U < w.heap.size + 2) (hne : T ≠ U) : TwoH w V T U x0 x1 x2 x3 y0 y1 y2 y3 a b (upd L 2 true) ((((W.setCell ⟨T, 0, none⟩ x0).setCell ⟨T, 1, none⟩ x1).setCell ⟨T, 2, none⟩ x2).setCell ⟨T, 3, none⟩ x3) := by
  have k : K3 T T T 0 W ((((W.setCell ⟨T, 0, none⟩ x0).setCell ⟨T, 1, none⟩ x1).setCell ⟨T, 2, none⟩ x2).setCell ⟨T, 3, none⟩ x3) := K3.set4
  have hu := heap_set4 (W := W) (U := T) (b := U) (v0 := x0) (v1 := x1) (v2 := x2) (v3 := x3) (Ne.symm hne)
  refine ⟨fun b h1 h2 => (heap_set4 h1).trans (h.kp b h1 h2), (fun b i => by rw [World.frozen?_setCell, World.frozen?_setCell, World.frozen?_setCell, World.frozen?_setCell]; exact h.fz b i), (fun e => by rw [upd_same] at e; cases e), fun _ => four c0 c1 c2 c3, fun e => hu.trans (h.u0 (by rwa [upd_other _ _ (by decide)] at e)), fun e => ?_, setAll_below hT.1 [x0, x1, x2, x3] 0 _ h.be, h.da.next k hT.2 hT.2 hT.2, h.db.next k hT.2 hT.2 hT.2⟩
  obtain ⟨z0, z1, z2, z3⟩ := h.u1 (by rwa [upd_other _ _ (by decide)] at e)
  exact ⟨(World.cell?_of_block (a := ⟨U, 0, none⟩) hu).trans z0, (World.cell?_of_block (a := ⟨U, 1, none⟩) hu).trans z1, (World.cell?_of_block (a := ⟨U, 2, none⟩) hu).trans z2, (World.cell?_of_block (a := ⟨U, 3, none⟩) hu).trans z3⟩
theorem TwoH.putU {w V : World} {T U : Nat} {x0 x1 x2 x3 y0 y1 y2 y3 a b : Value} {L : Nat → Bool} {W : World} (h : TwoH w V T U x0 x1 x2 x3 y0 y1 y2 y3 a b L W) {q0 q1 q2 q3 : Value} (c0 : W.cell? ⟨U, 0, none⟩ = some q0) (c1 : W.cell? ⟨U, 1, none⟩ = some q1) (c2 : W.cell? ⟨U, 2, none⟩ = some q2) (c3 : W.cell? ⟨U, 3, none⟩ = some q3) (hU : w.heap.size ≤ U ∧ U < w.heap.size + 2) (hT : w.heap.size ≤ T ∧ T < w.heap.size + 2) (hne : U ≠ T) : TwoH w V T U x0 x1 x2 x3 y0 y1 y2 y3 a b (upd L 3 true) ((((W.setCell ⟨U, 0, none⟩ y0).setCell ⟨U, 1, none⟩ y1).setCell ⟨U, 2, none⟩ y2).setCell ⟨U, 3, none⟩ y3) := by
  have k : K3 U U U 0 W ((((W.setCell ⟨U, 0, none⟩ y0).setCell ⟨U, 1, none⟩ y1).setCell ⟨U, 2, none⟩ y2).setCell ⟨U, 3, none⟩ y3) := K3.set4
  have hu := heap_set4 (W := W) (U := U) (b := T) (v0 := y0) (v1 := y1) (v2 := y2) (v3 := y3) (Ne.symm hne)
  refine ⟨fun b h1 h2 => (heap_set4 h2).trans (h.kp b h1 h2), (fun b i => by rw [World.frozen?_setCell, World.frozen?_setCell, World.frozen?_setCell, World.frozen?_setCell]; exact h.fz b i), fun e => hu.trans (h.t0 (by rwa [upd_other _ _ (by decide)] at e)), fun e => ?_, (fun e => by rw [upd_same] at e; cases e), fun _ => four c0 c1 c2 c3, setAll_below hU.1 [y0, y1, y2, y3] 0 _ h.be, h.da.next k hU.2 hU.2 hU.2, h.db.next k hU.2 hU.2 hU.2⟩
  obtain ⟨z0, z1, z2, z3⟩ := h.t1 (by rwa [upd_other _ _ (by decide)] at e)
  exact ⟨(World.cell?_of_block (a := ⟨T, 0, none⟩) hu).trans z0, (World.cell?_of_block (a := ⟨T, 1, none⟩) hu).trans z1, (World.cell?_of_block (a := ⟨T, 2, none⟩) hu).trans z2, (World.cell?_of_block (a := ⟨T, 3, none⟩) hu).trans z3⟩
set_option maxRecDepth 10000 in
set_option maxHeartbeats 16000000 in
theorem drawAbsWide (a : Option Addr) (len cap : Nat) (z : Nat → Int) (w : World) (hz : ∀ i, 0 ≤ z i ∧ z i ≤ 255) (hl : len ≤ 1048576) (h : Bytes w a len cap z) :
    Calls Tryd.prog 4 #[.slice a len cap] w fun e w' => ∃ (v1 v2 : Value), StD w.heap.size v1 w' ∧ StD w.heap.size v2 w' ∧ e = .returned (.tuple #[v1, v2]) ∧ Below w.heap.size w w' := by
  have b0 : Below w.heap.size w ((w.alloc (.cells #[.bool false, .slice none 0 0, .int .i64 0, .int .i64 0] 27)).alloc (.cells #[.bool false, .slice none 0 0, .int .i64 0, .int .i64 0] 27)) := ((Below.refl _ _).alloc (Nat.le_refl _) _).alloc (by simp) _
  have H : HeldL w [(w.heap.size + 1, [Value.bool false, .slice none 0 0, .int .i64 0, .int .i64 0]), (w.heap.size, [Value.bool false, .slice none 0 0, .int .i64 0, .int .i64 0])] ((w.alloc (.cells #[.bool false, .slice none 0 0, .int .i64 0, .int .i64 0] 27)).alloc (.cells #[.bool false, .slice none 0 0, .int .i64 0, .int .i64 0] 27)) := by
    have e1 : w.heap.size + 1 = (w.alloc (.cells #[.bool false, .slice none 0 0, .int .i64 0, .int .i64 0] 27)).heap.size := by simp
    rw [e1]
    exact HeldL.newL (vs := [Value.bool false, .slice none 0 0, .int .i64 0, .int .i64 0]) (HeldL.newL (vs := [Value.bool false, .slice none 0 0, .int .i64 0, .int .i64 0]) (HeldL.nil w))
  go_enter Tryd.func4, Tryd.ntmps4
  go_wp2_with fail
  refine (drawAbsIn a len cap z _ hz hl (h.kept b0)).mono ?_
  rintro e w1 ⟨v1, v2, d1, d2, rfl, b1⟩
  replace d1 : StD (w.heap.size + 2) v1 w1 := d1.base (by simp)
  replace d2 : StD (w.heap.size + 2) v2 w1 := d2.base (by simp)
  have H1 := H.next b1
  clear H b0 b1 h
  obtain ⟨onA, aA, gA, nA, cA, zA, xA, yA, rfl, pA, qA, rA⟩ := d1
  obtain ⟨onB, aB, gB, nB, cB, zB, xB, yB, rfl, pB, qB, rB⟩ := d2
  have kk : K3 w.heap.size w.heap.size w.heap.size 0 w1 ((w1.alloc (.cells #[.bool onA, .slice aA nA cA, .int .i64 xA, .int .i64 yA] 27)).alloc (.cells #[.bool onB, .slice aB nB cB, .int .i64 xB, .int .i64 yB] 27)) := ⟨by simp; omega, fun b hb _ _ _ => by rw [Below.heap_alloc _ _ _ (by simp; omega), Below.heap_alloc _ _ _ hb]⟩
  have dA := StD.next (N := w.heap.size + 2) (v := .agg #[.bool onA, .slice aA nA cA, .int .i64 xA, .int .i64 yA]) ⟨onA, aA, gA, nA, cA, zA, xA, yA, rfl, pA, qA, rA⟩ kk (by omega) (by omega) (by omega)
  have dB := StD.next (N := w.heap.size + 2) (v := .agg #[.bool onB, .slice aB nB cB, .int .i64 xB, .int .i64 yB]) ⟨onB, aB, gB, nB, cB, zB, xB, yB, rfl, pB, qB, rB⟩ kk (by omega) (by omega) (by omega)
  have H : HeldL w [(w1.heap.size + 1, [Value.bool onB, .slice aB nB cB, .int .i64 xB, .int .i64 yB]), (w1.heap.size, [Value.bool onA, .slice aA nA cA, .int .i64 xA, .int .i64 yA]), (w.heap.size + 1, [Value.bool false, .slice none 0 0, .int .i64 0, .int .i64 0]), (w.heap.size, [Value.bool false, .slice none 0 0, .int .i64 0, .int .i64 0])] ((w1.alloc (.cells #[.bool onA, .slice aA nA cA, .int .i64 xA, .int .i64 yA] 27)).alloc (.cells #[.bool onB, .slice aB nB cB, .int .i64 xB, .int .i64 yB] 27)) := by
    have e1 : w1.heap.size + 1 = (w1.alloc (.cells #[.bool onA, .slice aA nA cA, .int .i64 xA, .int .i64 yA] 27)).heap.size := by simp
    rw [e1]
    exact HeldL.newL (vs := [Value.bool onB, .slice aB nB cB, .int .i64 xB, .int .i64 yB]) (HeldL.newL (vs := [Value.bool onA, .slice aA nA cA, .int .i64 xA, .int .i64 yA]) H1)
  have hs1 : w.heap.size + 1 < w1.heap.size := H1.size (e := (w.heap.size + 1, [Value.bool false, .slice none 0 0, .int .i64 0, .int .i64 0])) (by simp)
  clear H1 kk qA rA qB rB pA pB
  have bV := H.below
  have aA0 := H.cell (e := (w1.heap.size, [Value.bool onA, .slice aA nA cA, .int .i64 xA, .int .i64 yA])) (by simp) (i := 0) rfl
  have aA1 := H.cell (e := (w1.heap.size, [Value.bool onA, .slice aA nA cA, .int .i64 xA, .int .i64 yA])) (by simp) (i := 1) rfl
  have aA2 := H.cell (e := (w1.heap.size, [Value.bool onA, .slice aA nA cA, .int .i64 xA, .int .i64 yA])) (by simp) (i := 2) rfl
  have aA3 := H.cell (e := (w1.heap.size, [Value.bool onA, .slice aA nA cA, .int .i64 xA, .int .i64 yA])) (by simp) (i := 3) rfl
  have aB0 := H.cell (e := (w1.heap.size + 1, [Value.bool onB, .slice aB nB cB, .int .i64 xB, .int .i64 yB])) (by simp) (i := 0) rfl
  have aB1 := H.cell (e := (w1.heap.size + 1, [Value.bool onB, .slice aB nB cB, .int .i64 xB, .int .i64 yB])) (by simp) (i := 1) rfl
  have aB2 := H.cell (e := (w1.heap.size + 1, [Value.bool onB, .slice aB nB cB, .int .i64 xB, .int .i64 yB])) (by simp) (i := 2) rfl
  have aB3 := H.cell (e := (w1.heap.size + 1, [Value.bool onB, .slice aB nB cB, .int .i64 xB, .int .i64 yB])) (by simp) (i := 3) rfl
  have tT0 := H.cell (e := (w.heap.size, [Value.bool false, .slice none 0 0, .int .i64 0, .int .i64 0])) (by simp) (i := 0) rfl
  have tT1 := H.cell (e := (w.heap.size, [Value.bool false, .slice none 0 0, .int .i64 0, .int .i64 0])) (by simp) (i := 1) rfl
  have tT2 := H.cell (e := (w.heap.size, [Value.bool false, .slice none 0 0, .int .i64 0, .int .i64 0])) (by simp) (i := 2) rfl
  have tT3 := H.cell (e := (w.heap.size, [Value.bool false, .slice none 0 0, .int .i64 0, .int .i64 0])) (by simp) (i := 3) rfl
  have tU0 := H.cell (e := (w.heap.size + 1, [Value.bool false, .slice none 0 0, .int .i64 0, .int .i64 0])) (by simp) (i := 0) rfl
  have tU1 := H.cell (e := (w.heap.size + 1, [Value.bool false, .slice none 0 0, .int .i64 0, .int .i64 0])) (by simp) (i := 1) rfl
  have tU2 := H.cell (e := (w.heap.size + 1, [Value.bool false, .slice none 0 0, .int .i64 0, .int .i64 0])) (by simp) (i := 2) rfl
  have tU3 := H.cell (e := (w.heap.size + 1, [Value.bool false, .slice none 0 0, .int .i64 0, .int .i64 0])) (by simp) (i := 3) rfl
  have fT0 := H.free (w.heap.size, [Value.bool false, .slice none 0 0, .int .i64 0, .int .i64 0]) (by simp) 0
  have fT1 := H.free (w.heap.size, [Value.bool false, .slice none 0 0, .int .i64 0, .int .i64 0]) (by simp) 1
  have fT2 := H.free (w.heap.size, [Value.bool false, .slice none 0 0, .int .i64 0, .int .i64 0]) (by simp) 2
  have fT3 := H.free (w.heap.size, [Value.bool false, .slice none 0 0, .int .i64 0, .int .i64 0]) (by simp) 3
  have fU0 := H.free (w.heap.size + 1, [Value.bool false, .slice none 0 0, .int .i64 0, .int .i64 0]) (by simp) 0
  have fU1 := H.free (w.heap.size + 1, [Value.bool false, .slice none 0 0, .int .i64 0, .int .i64 0]) (by simp) 1
  have fU2 := H.free (w.heap.size + 1, [Value.bool false, .slice none 0 0, .int .i64 0, .int .i64 0]) (by simp) 2
  have fU3 := H.free (w.heap.size + 1, [Value.bool false, .slice none 0 0, .int .i64 0, .int .i64 0]) (by simp) 3
  dsimp only at aA0 aA1 aA2 aA3 aB0 aB1 aB2 aB3 tT0 tT1 tT2 tT3 tU0 tU1 tU2 tU3 fT0 fT1 fT2 fT3 fU0 fU1 fU2 fU3
  have aA0' := aA0
  have aA1' := aA1
  have aA2' := aA2
  have aA3' := aA3
  go_upto_region 2 with fail
  obtain ⟨V, hV⟩ : ∃ V, V = ((w1.alloc (.cells #[.bool onA, .slice aA nA cA, .int .i64 xA, .int .i64 yA] 27)).alloc (.cells #[.bool onB, .slice aB nB cB, .int .i64 xB, .int .i64 yB] 27)) := ⟨_, rfl⟩
  obtain ⟨XT, hT⟩ : ∃ X, X = w.heap.size := ⟨_, rfl⟩
  obtain ⟨XU, hU⟩ : ∃ X, X = w.heap.size + 1 := ⟨_, rfl⟩
  obtain ⟨XA, hA⟩ : ∃ X, X = w1.heap.size := ⟨_, rfl⟩
  obtain ⟨XB, hB⟩ : ∃ X, X = w1.heap.size + 1 := ⟨_, rfl⟩
  rw [← hV, ← hU, ← hB, ← hT, ← hA]
  rw [← hV] at dA dB bV
  rw [← hV, ← hA] at aA0 aA1 aA2 aA3
  rw [← hV, ← hB] at aB0 aB1 aB2 aB3
  rw [← hV, ← hT] at tT0 tT1 tT2 tT3 fT0 fT1 fT2 fT3
  rw [← hV, ← hU] at tU0 tU1 tU2 tU3 fU0 fU1 fU2 fU3
  have hXT : w.heap.size ≤ XT ∧ XT < w.heap.size + 2 := by omega
  have hXU : w.heap.size ≤ XU ∧ XU < w.heap.size + 2 := by omega
  have hTU : XT ≠ XU := by omega
  have hAT : ¬ XA = XT := by omega
  have hAU : ¬ XA = XU := by omega
  have hBT : ¬ XB = XT := by omega
  have hBU : ¬ XB = XU := by omega
  have hTU' : ¬ XU = XT := by omega
  clear hV hT hU hA hB aA0' aA1' aA2' aA3'
  clear hs1
  by_cases hp : (len : Int) % 2 = 0
  case pos =>
    have hS0 : TwoH w V XT XU (.bool onB) (.slice aB nB cB) (.int .i64 xB) (.int .i64 yB) (.bool onA) (.slice aA nA cA) (.int .i64 xA) (.int .i64 yA) (.agg #[.bool onA, .slice aA nA cA, .int .i64 xA, .int .i64 yA]) (.agg #[.bool onB, .slice aB nB cB, .int .i64 xB, .int .i64 yB]) (fun _ => false) V.drew := ⟨(fun _ _ _ => rfl), (fun _ _ => rfl), (fun _ => rfl), (fun h => by cases h), (fun _ => rfl), (fun h => by cases h), bV.drew, dA.next (R := XT) (T := XT) (U := XT) (i := 0) ⟨Nat.le_refl _, fun _ _ _ _ _ => rfl⟩ hXT.2 hXT.2 hXT.2, dB.next (R := XT) (T := XT) (U := XT) (i := 0) ⟨Nat.le_refl _, fun _ _ _ _ _ => rfl⟩ hXT.2 hXT.2 hXT.2⟩
    clear dA dB bV H
    go_wp2_with fail
    refine region_inv3 [(0, 15), (1, 16)]
      (fun j v _ => match j with
        | 0 => Is (.agg #[.bool onB, .slice aB nB cB, .int .i64 xB, .int .i64 yB]) v
        | 1 => Is (.agg #[.bool onA, .slice aA nA cA, .int .i64 xA, .int .i64 yA]) v
        | _ => True)
      (fun L W => TwoH w V XT XU (.bool onB) (.slice aB nB cB) (.int .i64 xB) (.int .i64 yB) (.bool onA) (.slice aA nA cA) (.int .i64 xA) (.int .i64 yA) (.agg #[.bool onA, .slice aA nA cA, .int .i64 xA, .int .i64 yA]) (.agg #[.bool onB, .slice aB nB cB, .int .i64 xB, .int .i64 yB]) L W) TT
      (by kernel_rfl) (by kernel_rfl) (by kernel_rfl) (by kernel_rfl) (by kernel_rfl) rfl hS0 (fun i j v W W' _ h _ => h) ?_ ?_
    · intro i L vals W hi' hφ hS hL hd
      have hi2 : i < 4 := hi'
      clear hi'
      rcases (show i = 0 ∨ i = 1 ∨ i = 2 ∨ i = 3 by omega) with rfl | rfl | rfl | rfl
      · have b0 := (World.cell?_of_block (a := ⟨XB, 0, none⟩) (hS.kp XB hBT hBU)).trans aB0
        have b1 := (World.cell?_of_block (a := ⟨XB, 1, none⟩) (hS.kp XB hBT hBU)).trans aB1
        have b2 := (World.cell?_of_block (a := ⟨XB, 2, none⟩) (hS.kp XB hBT hBU)).trans aB2
        have b3 := (World.cell?_of_block (a := ⟨XB, 3, none⟩) (hS.kp XB hBT hBU)).trans aB3
        refine wpAt_of rfl rfl ?_
        simp only [frOf, Act.put]
        go_wp2_with fail
        first | exact ⟨trivial, rfl, trivial, hS.pure (by decide) (by decide)⟩ | exact ⟨rfl, trivial, hS.pure (by decide) (by decide)⟩
      · have b0 := (World.cell?_of_block (a := ⟨XA, 0, none⟩) (hS.kp XA hAT hAU)).trans aA0
        have b1 := (World.cell?_of_block (a := ⟨XA, 1, none⟩) (hS.kp XA hAT hAU)).trans aA1
        have b2 := (World.cell?_of_block (a := ⟨XA, 2, none⟩) (hS.kp XA hAT hAU)).trans aA2
        have b3 := (World.cell?_of_block (a := ⟨XA, 3, none⟩) (hS.kp XA hAT hAU)).trans aA3
        refine wpAt_of rfl rfl ?_
        simp only [frOf, Act.put]
        go_wp2_with fail
        first | exact ⟨trivial, rfl, trivial, hS.pure (by decide) (by decide)⟩ | exact ⟨rfl, trivial, hS.pure (by decide) (by decide)⟩
      · have k0 : vals 0 = .agg #[.bool onB, .slice aB nB cB, .int .i64 xB, .int .i64 yB] := hφ 0 (hd 0 (by decide))
        have c0 := (World.cell?_of_block (a := ⟨XT, 0, none⟩) (hS.t0 hL)).trans tT0
        have c1 := (World.cell?_of_block (a := ⟨XT, 1, none⟩) (hS.t0 hL)).trans tT1
        have c2 := (World.cell?_of_block (a := ⟨XT, 2, none⟩) (hS.t0 hL)).trans tT2
        have c3 := (World.cell?_of_block (a := ⟨XT, 3, none⟩) (hS.t0 hL)).trans tT3
        have g0 := (hS.fz XT 0).trans fT0
        have g1 := (hS.fz XT 1).trans fT1
        have g2 := (hS.fz XT 2).trans fT2
        have g3 := (hS.fz XT 3).trans fT3
        refine wpAt_none rfl rfl ?_
        simp only [frOf, Act.put]
        go_wp2_with fail
        have s' := hS.putT c0 c1 c2 c3 hXT hXU hTU
        first | exact ⟨trivial, trivial, trivial, s'⟩ | exact ⟨trivial, trivial, s'⟩ | exact ⟨trivial, s'⟩ | exact s'
      · have k1 : vals 1 = .agg #[.bool onA, .slice aA nA cA, .int .i64 xA, .int .i64 yA] := hφ 1 (hd 1 (by decide))
        have c0 := (World.cell?_of_block (a := ⟨XU, 0, none⟩) (hS.u0 hL)).trans tU0
        have c1 := (World.cell?_of_block (a := ⟨XU, 1, none⟩) (hS.u0 hL)).trans tU1
        have c2 := (World.cell?_of_block (a := ⟨XU, 2, none⟩) (hS.u0 hL)).trans tU2
        have c3 := (World.cell?_of_block (a := ⟨XU, 3, none⟩) (hS.u0 hL)).trans tU3
        have g0 := (hS.fz XU 0).trans fU0
        have g1 := (hS.fz XU 1).trans fU1
        have g2 := (hS.fz XU 2).trans fU2
        have g3 := (hS.fz XU 3).trans fU3
        refine wpAt_none rfl rfl ?_
        simp only [frOf, Act.put]
        go_wp2_with fail
        have s' := hS.putU c0 c1 c2 c3 hXU hXT (Ne.symm hTU)
        first | exact ⟨trivial, trivial, trivial, s'⟩ | exact ⟨trivial, trivial, s'⟩ | exact ⟨trivial, s'⟩ | exact s'
    · intro L vals W hall hφ hS
      obtain ⟨s0, s1, s2, s3⟩ := hS.t1 (hall 2 (by decide))
      obtain ⟨s4, s5, s6, s7⟩ := hS.u1 (hall 3 (by decide))
      have q1 := hS.da.base (M := w.heap.size) (by omega)
      have q2 := hS.db.base (M := w.heap.size) (by omega)
      have q3 := hS.be
      clear hS hφ
      simp only [frOf, Act.put, List.setIfInBounds_toArray, List.set_cons_succ, List.set_cons_zero]
      go_wp2_with fail
      exact bodyPost_ret (v := .tuple #[.agg #[.bool onB, .slice aB nB cB, .int .i64 xB, .int .i64 yB], .agg #[.bool onA, .slice aA nA cA, .int .i64 xA, .int .i64 yA]]) (by simp [results, Tryd.results4, go_sem, s0, s1, s2, s3, s4, s5, s6, s7]) rfl ⟨_, _, q2, q1, rfl, q3⟩
  case neg =>
    have hS0 : TwoH w V XT XU (.bool onA) (.slice aA nA cA) (.int .i64 xA) (.int .i64 yA) (.bool onB) (.slice aB nB cB) (.int .i64 xB) (.int .i64 yB) (.agg #[.bool onA, .slice aA nA cA, .int .i64 xA, .int .i64 yA]) (.agg #[.bool onB, .slice aB nB cB, .int .i64 xB, .int .i64 yB]) (fun _ => false) V.drew := ⟨(fun _ _ _ => rfl), (fun _ _ => rfl), (fun _ => rfl), (fun h => by cases h), (fun _ => rfl), (fun h => by cases h), bV.drew, dA.next (R := XT) (T := XT) (U := XT) (i := 0) ⟨Nat.le_refl _, fun _ _ _ _ _ => rfl⟩ hXT.2 hXT.2 hXT.2, dB.next (R := XT) (T := XT) (U := XT) (i := 0) ⟨Nat.le_refl _, fun _ _ _ _ _ => rfl⟩ hXT.2 hXT.2 hXT.2⟩
    clear dA dB bV H
    go_wp2_with fail
    refine region_inv3 [(0, 17), (1, 18)]
      (fun j v _ => match j with
        | 0 => Is (.agg #[.bool onA, .slice aA nA cA, .int .i64 xA, .int .i64 yA]) v
        | 1 => Is (.agg #[.bool onB, .slice aB nB cB, .int .i64 xB, .int .i64 yB]) v
        | _ => True)
      (fun L W => TwoH w V XT XU (.bool onA) (.slice aA nA cA) (.int .i64 xA) (.int .i64 yA) (.bool onB) (.slice aB nB cB) (.int .i64 xB) (.int .i64 yB) (.agg #[.bool onA, .slice aA nA cA, .int .i64 xA, .int .i64 yA]) (.agg #[.bool onB, .slice aB nB cB, .int .i64 xB, .int .i64 yB]) L W) TT
      (by kernel_rfl) (by kernel_rfl) (by kernel_rfl) (by kernel_rfl) (by kernel_rfl) rfl hS0 (fun i j v W W' _ h _ => h) ?_ ?_
    · intro i L vals W hi' hφ hS hL hd
      have hi2 : i < 4 := hi'
      clear hi'
      rcases (show i = 0 ∨ i = 1 ∨ i = 2 ∨ i = 3 by omega) with rfl | rfl | rfl | rfl
      · have b0 := (World.cell?_of_block (a := ⟨XA, 0, none⟩) (hS.kp XA hAT hAU)).trans aA0
        have b1 := (World.cell?_of_block (a := ⟨XA, 1, none⟩) (hS.kp XA hAT hAU)).trans aA1
        have b2 := (World.cell?_of_block (a := ⟨XA, 2, none⟩) (hS.kp XA hAT hAU)).trans aA2
        have b3 := (World.cell?_of_block (a := ⟨XA, 3, none⟩) (hS.kp XA hAT hAU)).trans aA3
        refine wpAt_of rfl rfl ?_
        simp only [frOf, Act.put]
        go_wp2_with fail
        first | exact ⟨trivial, rfl, trivial, hS.pure (by decide) (by decide)⟩ | exact ⟨rfl, trivial, hS.pure (by decide) (by decide)⟩
      · have b0 := (World.cell?_of_block (a := ⟨XB, 0, none⟩) (hS.kp XB hBT hBU)).trans aB0
        have b1 := (World.cell?_of_block (a := ⟨XB, 1, none⟩) (hS.kp XB hBT hBU)).trans aB1
        have b2 := (World.cell?_of_block (a := ⟨XB, 2, none⟩) (hS.kp XB hBT hBU)).trans aB2
        have b3 := (World.cell?_of_block (a := ⟨XB, 3, none⟩) (hS.kp XB hBT hBU)).trans aB3
        refine wpAt_of rfl rfl ?_
        simp only [frOf, Act.put]
        go_wp2_with fail
        first | exact ⟨trivial, rfl, trivial, hS.pure (by decide) (by decide)⟩ | exact ⟨rfl, trivial, hS.pure (by decide) (by decide)⟩
      · have k0 : vals 0 = .agg #[.bool onA, .slice aA nA cA, .int .i64 xA, .int .i64 yA] := hφ 0 (hd 0 (by decide))
        have c0 := (World.cell?_of_block (a := ⟨XT, 0, none⟩) (hS.t0 hL)).trans tT0
        have c1 := (World.cell?_of_block (a := ⟨XT, 1, none⟩) (hS.t0 hL)).trans tT1
        have c2 := (World.cell?_of_block (a := ⟨XT, 2, none⟩) (hS.t0 hL)).trans tT2
        have c3 := (World.cell?_of_block (a := ⟨XT, 3, none⟩) (hS.t0 hL)).trans tT3
        have g0 := (hS.fz XT 0).trans fT0
        have g1 := (hS.fz XT 1).trans fT1
        have g2 := (hS.fz XT 2).trans fT2
        have g3 := (hS.fz XT 3).trans fT3
        refine wpAt_none rfl rfl ?_
        simp only [frOf, Act.put]
        go_wp2_with fail
        have s' := hS.putT c0 c1 c2 c3 hXT hXU hTU
        first | exact ⟨trivial, trivial, trivial, s'⟩ | exact ⟨trivial, trivial, s'⟩ | exact ⟨trivial, s'⟩ | exact s'
      · have k1 : vals 1 = .agg #[.bool onB, .slice aB nB cB, .int .i64 xB, .int .i64 yB] := hφ 1 (hd 1 (by decide))
        have c0 := (World.cell?_of_block (a := ⟨XU, 0, none⟩) (hS.u0 hL)).trans tU0
        have c1 := (World.cell?_of_block (a := ⟨XU, 1, none⟩) (hS.u0 hL)).trans tU1
        have c2 := (World.cell?_of_block (a := ⟨XU, 2, none⟩) (hS.u0 hL)).trans tU2
        have c3 := (World.cell?_of_block (a := ⟨XU, 3, none⟩) (hS.u0 hL)).trans tU3
        have g0 := (hS.fz XU 0).trans fU0
        have g1 := (hS.fz XU 1).trans fU1
        have g2 := (hS.fz XU 2).trans fU2
        have g3 := (hS.fz XU 3).trans fU3
        refine wpAt_none rfl rfl ?_
        simp only [frOf, Act.put]
        go_wp2_with fail
        have s' := hS.putU c0 c1 c2 c3 hXU hXT (Ne.symm hTU)
        first | exact ⟨trivial, trivial, trivial, s'⟩ | exact ⟨trivial, trivial, s'⟩ | exact ⟨trivial, s'⟩ | exact s'
    · intro L vals W hall hφ hS
      obtain ⟨s0, s1, s2, s3⟩ := hS.t1 (hall 2 (by decide))
      obtain ⟨s4, s5, s6, s7⟩ := hS.u1 (hall 3 (by decide))
      have q1 := hS.da.base (M := w.heap.size) (by omega)
      have q2 := hS.db.base (M := w.heap.size) (by omega)
      have q3 := hS.be
      clear hS hφ
      simp only [frOf, Act.put, List.setIfInBounds_toArray, List.set_cons_succ, List.set_cons_zero]
      go_wp2_with fail
      exact bodyPost_ret (v := .tuple #[.agg #[.bool onA, .slice aA nA cA, .int .i64 xA, .int .i64 yA], .agg #[.bool onB, .slice aB nB cB, .int .i64 xB, .int .i64 yB]]) (by simp [results, Tryd.results4, go_sem, s0, s1, s2, s3, s4, s5, s6, s7]) rfl ⟨_, _, q1, q2, rfl, q3⟩
end Go.Proofs.YtiehokibfdaleaaDoor
namespace Go.Proofs.YtiehokibfdaleaaDoor
open Go.RowKit

/-- THE RULE: φ: what is known of each value that is there; S: what is known of the world, by what is done and by the values. -/
theorem region_inv4 {P : Program} {ops : Array Oper} {Q : Exit → Act → World → Prop} {id : Nat} {a : Act} {w : World} (ds : List (Nat × Nat)) (φ : Nat → Value → Prop) (S : (Nat → Bool) → (Nat → Value) → World → Prop)
    (hm : P.follows .mixedOrders = true) (hdep : depsB ops = true) (hds : dsts ops = ds) (hk : decide ((ds.map (·.1)).Nodup) = true) (hd : decide ((ds.map (·.2)).Nodup) = true) (hlt : (ds.all fun e => decide (e.2 < a.tmps.size)) = true) (hS : ∀ v0, S (fun _ => false) v0 w.drew)
    (hop : ∀ i L vals w, i < ops.size → (∀ j, L j = true → φ j (vals j)) → S L vals w → L i = false → (∀ j ∈ deps ops i, L j = true) →
      wpAt P ops Q i (fun v w' => φ i v ∧ S (upd L i true) (upd vals i v) w') (frOf ds a vals) w)
    (hend : ∀ L vals w, (∀ j, j < ops.size → L j = true) → (∀ j, j < ops.size → φ j (vals j)) → S L vals w → Q .normal (frOf ds a vals) w) :
    (Code.region id ops true).wp P Q a w := by
  have hk' := of_decide_eq_true hk
  have hd' := of_decide_eq_true hd
  obtain ⟨v0, h0⟩ := frOf_self ds hk' a
  refine wp_region_any hm (wpAny_inv (fun L a' w => ∃ vals, a' = frOf ds a vals ∧ (∀ j, L j = true → φ j (vals j)) ∧ S L vals w) hdep ?_ ?_ _ _ _ _ (by simp) ?_ ?_)
  · rintro i L a' w hi ⟨vals, rfl, hφ, hS'⟩ hL hdp
    refine wpOp_mono ?_ (wpAt_op (fun d hd2 => ?_) hi (hop i L vals w hi hφ hS' hL hdp))
    · rintro a'' w' ⟨v, rfl, hv, hS2⟩
      refine ⟨upd vals i v, ?_, fun j hj => ?_, hS2⟩
      · cases hdst : (ops[i]?).bind (·.dst) with
        | some d =>
          refine frOf_put hk' hd' ?_ v a vals
          rw [← hds]
          unfold dsts
          rw [List.mem_filterMap]
          exact ⟨i, by simp [hi], by simp [hdst]⟩
        | none =>
          have h2 : ∀ e ∈ ds, e.1 ≠ i := by
            intro e he hh
            rw [← hds] at he
            unfold dsts at he
            rw [List.mem_filterMap] at he
            obtain ⟨k, _, hk2⟩ := he
            simp only [Option.map_eq_some_iff] at hk2
            obtain ⟨d, hd2, rfl⟩ := hk2
            simp only at hh
            subst hh
            rw [hdst] at hd2
            cases hd2
          rw [frOf_same h2]
          rfl
      · by_cases hji : j = i
        · subst hji
          rw [upd_same]; exact hv
        · rw [upd_other _ _ hji] at hj ⊢
          exact hφ j hj
    · rw [(frOf_size ds a vals).1]
      rw [List.all_eq_true] at hlt
      have hm' : (i, d) ∈ ds := by
        rw [← hds]
        unfold dsts
        rw [List.mem_filterMap]
        exact ⟨i, by simp [hi], by simp [hd2]⟩
      simpa using hlt (i, d) hm'
  · rintro L a' w ⟨vals, rfl, hφ, hS'⟩ hall
    exact hend L vals w hall (fun j hj => hφ j (hall j hj)) hS'
  · exact Nat.le_trans List.countP_le_length (by simp)
  · refine ⟨v0, h0, fun j hj => ?_, ?_⟩
    · exfalso
      unfold lis at hj
      by_cases h : j < ops.size <;> simp [h] at hj
    · have e : lis (Array.replicate ops.size false) = fun _ => false := by
        funext j
        unfold lis
        by_cases h : j < ops.size <;> simp [h]
      rw [e]; exact hS v0
/-- A block of two cells that the region makes (operation p, behind N) and fills (operation s). -/
def NewB (N : Nat) (x y : Value) (p s : Nat) (L : Nat → Bool) (vals : Nat → Value) (W : World) : Prop :=
  N ≤ W.heap.size ∧ (L s = true → L p = true) ∧ (L p = true → ∃ b, vals p = .pointer (some ⟨b, 0, none⟩) ∧ N ≤ b ∧ b < W.heap.size ∧ (∀ i, W.frozen? ⟨b, i, none⟩ = false) ∧ (∃ u v, W.cell? ⟨b, 0, none⟩ = some u ∧ W.cell? ⟨b, 1, none⟩ = some v) ∧ (L s = true → W.cell? ⟨b, 0, none⟩ = some x ∧ W.cell? ⟨b, 1, none⟩ = some y))
theorem NewB.start {N : Nat} {x y : Value} {p s : Nat} {vals : Nat → Value} {W : World} (hN : N ≤ W.heap.size) : NewB N x y p s (fun _ => false) vals W := ⟨hN, (fun h => by cases h), (fun h => by cases h)⟩
theorem NewB.next {N : Nat} {x y : Value} {p s : Nat} {L : Nat → Bool} {vals : Nat → Value} {W W' : World} (h : NewB N x y p s L vals W) (hb : Below W.heap.size W W') {i : Nat} {v : Value} (h1 : p ≠ i) (h2 : s ≠ i) : NewB N x y p s (upd L i true) (upd vals i v) W' := by
  refine ⟨Nat.le_trans h.1 hb.size, fun e => ?_, fun e => ?_⟩
  · rw [upd_other _ _ h1]; rw [upd_other _ _ h2] at e; exact h.2.1 e
  rw [upd_other _ _ h1] at e
  obtain ⟨b, k1, k2, k3, k4, ⟨u, t, k5, k6⟩, k7⟩ := h.2.2 e
  refine ⟨b, by rw [upd_other _ _ h1]; exact k1, k2, Nat.lt_of_lt_of_le k3 hb.size, fun i => (hb.frozen (p := ⟨b, i, none⟩) k3).trans (k4 i), ⟨u, t, (hb.cell (p := ⟨b, 0, none⟩) k3).trans k5, (hb.cell (p := ⟨b, 1, none⟩) k3).trans k6⟩, fun e2 => ?_⟩
  rw [upd_other _ _ h2] at e2
  exact ⟨(hb.cell (p := ⟨b, 0, none⟩) k3).trans (k7 e2).1, (hb.cell (p := ⟨b, 1, none⟩) k3).trans (k7 e2).2⟩
theorem NewB.pure {N : Nat} {x y : Value} {p s : Nat} {L : Nat → Bool} {vals : Nat → Value} {W : World} (h : NewB N x y p s L vals W) {i : Nat} {v : Value} (h1 : p ≠ i) (h2 : s ≠ i) : NewB N x y p s (upd L i true) (upd vals i v) W := h.next (Below.refl _ _) h1 h2
theorem NewB.made {N : Nat} {x y u v : Value} {t : TypeId} {p s : Nat} {L : Nat → Bool} {vals : Nat → Value} {W : World} (h : NewB N x y p s L vals W) (hp : L p = false) (hps : s ≠ p) : NewB N x y p s (upd L p true) (upd vals p (.pointer (some ⟨W.heap.size, 0, none⟩))) (W.alloc (.cells #[u, v] t)) := by
  refine ⟨Nat.le_trans h.1 (by simp), fun _ => upd_same _ _ _, fun _ => ?_⟩
  refine ⟨W.heap.size, upd_same _ _ _, h.1, by simp, fun i => by simp [go_sem], ⟨u, v, by simp [go_sem], by simp [go_sem]⟩, fun e => ?_⟩
  rw [upd_other _ _ hps] at e
  have := h.2.1 e
  rw [hp] at this
  cases this
theorem NewB.set {N : Nat} {x y : Value} {p s : Nat} {L : Nat → Bool} {vals : Nat → Value} {W : World} {b : Nat} (h : NewB N x y p s L vals W) (hL : L p = true) (hb : vals p = .pointer (some ⟨b, 0, none⟩)) {v : Value} (hps : p ≠ s) : NewB N x y p s (upd L s true) (upd vals s v) ((W.setCell ⟨b, 0, none⟩ x).setCell ⟨b, 1, none⟩ y) := by
  refine ⟨Nat.le_trans h.1 (by simp [World.setCell]), fun _ => by rw [upd_other _ _ hps]; exact hL, fun _ => ?_⟩
  obtain ⟨b', k1, k2, k3, k4, ⟨u, t, k5, k6⟩, _⟩ := h.2.2 hL
  rw [hb] at k1
  injection k1 with k1
  injection k1 with k1
  injection k1 with k1
  subst k1
  obtain ⟨e0, e1⟩ := own2 k5 k6
  have c0 : ((W.setCell ⟨b, 0, none⟩ x).setCell ⟨b, 1, none⟩ y).cell? ⟨b, 0, none⟩ = some x := by rw [World.cell?_setCell_other _ _ _ _ (by simp)]; exact e0 _
  exact ⟨b, by rw [upd_other _ _ hps]; exact hb, k2, by simpa [World.setCell] using k3, fun i => by rw [World.frozen?_setCell, World.frozen?_setCell]; exact k4 i, ⟨_, _, c0, e1 _ _⟩, fun _ => ⟨c0, e1 _ _⟩⟩
/-- What is held beside the new block. -/
theorem HeldL.setNew {w W : World} {Lb : List (Nat × List Value)} {N b : Nat} {x y : Value} (h : HeldL w Lb W) (hN : ∀ e ∈ Lb, e.1 < N) (hw : w.heap.size ≤ N) (hb : N ≤ b) : HeldL w Lb ((W.setCell ⟨b, 0, none⟩ x).setCell ⟨b, 1, none⟩ y) :=
  HeldL.setCell _ _ (by dsimp only; omega) (fun e he => by have := hN e he; dsimp only; omega) (HeldL.setCell _ _ (by dsimp only; omega) (fun e he => by have := hN e he; dsimp only; omega) h)
theorem HeldL.withNew {w W : World} {Lb : List (Nat × List Value)} {b : Nat} {x y : Value} (h : HeldL w Lb W) (hb : w.heap.size ≤ b) (h1 : b < W.heap.size) (h2 : ∀ i, W.frozen? ⟨b, i, none⟩ = false) (h3 : W.cell? ⟨b, 0, none⟩ = some x) (h4 : W.cell? ⟨b, 1, none⟩ = some y) : HeldL w ((b, [x, y]) :: Lb) W := by
  refine ⟨h.below, fun e he => ?_, fun e he i => ?_⟩
  · rcases List.mem_cons.1 he with rfl | he
    · refine ⟨hb, h1, fun i v hv => ?_⟩
      match i, hv with
      | 0, hv => simp at hv; subst hv; exact h3
      | 1, hv => simp at hv; subst hv; exact h4
      | n + 2, hv => simp at hv
    · exact h.cells e he
  · rcases List.mem_cons.1 he with rfl | he
    · exact h2 i
    · exact h.free e he i
/-- One cell of a block of two turned. -/
theorem HeldL.put0 {w W : World} {L : List (Nat × List Value)} {B : Nat} {u v x : Value} (hB : w.heap.size ≤ B) (hne : ∀ e ∈ L, e.1 ≠ B) (h : HeldL w ((B, [u, v]) :: L) W) : HeldL w ((B, [x, v]) :: L) (W.setCell ⟨B, 0, none⟩ x) := by
  have m := List.mem_cons_self (a := (B, [u, v])) (l := L)
  have hh := (h.sub (L' := L) (fun e he => List.mem_cons_of_mem _ he)).setCell ⟨B, 0, none⟩ x hB hne
  exact hh.withNew hB (by simpa [World.setCell] using h.size m) (fun i => by rw [World.frozen?_setCell]; exact h.free _ m i) (World.cell?_setCell_same _ _ _ (h.cell m (i := 0) rfl)) (by rw [World.cell?_setCell_other _ _ _ _ (by simp)]; exact h.cell m (i := 1) rfl)
theorem HeldL.put1 {w W : World} {L : List (Nat × List Value)} {B : Nat} {u v x : Value} (hB : w.heap.size ≤ B) (hne : ∀ e ∈ L, e.1 ≠ B) (h : HeldL w ((B, [u, v]) :: L) W) : HeldL w ((B, [u, x]) :: L) (W.setCell ⟨B, 1, none⟩ x) := by
  have m := List.mem_cons_self (a := (B, [u, v])) (l := L)
  have hh := (h.sub (L' := L) (fun e he => List.mem_cons_of_mem _ he)).setCell ⟨B, 1, none⟩ x hB hne
  exact hh.withNew hB (by simpa [World.setCell] using h.size m) (fun i => by rw [World.frozen?_setCell]; exact h.free _ m i) (by rw [World.cell?_setCell_other _ _ _ _ (by simp)]; exact h.cell m (i := 0) rfl) (World.cell?_setCell_same _ _ _ (h.cell m (i := 1) rfl))
end Go.Proofs.YtiehokibfdaleaaDoor
namespace Go.Proofs.YtiehokibfdaleaaDoor
open Go.RowKit

/-- A block that the region makes (operation p, behind N) and fills with vs (operation s). -/
def NewL (N : Nat) (vs : List Value) (p s : Nat) (L : Nat → Bool) (vals : Nat → Value) (W : World) : Prop :=
  N ≤ W.heap.size ∧ (L s = true → L p = true) ∧ (L p = true → ∃ b, vals p = .pointer (some ⟨b, 0, none⟩) ∧ N ≤ b ∧ b < W.heap.size ∧ (∀ i, W.frozen? ⟨b, i, none⟩ = false) ∧ (∀ j, j < vs.length → ∃ u, W.cell? ⟨b, j, none⟩ = some u) ∧ (L s = true → ∀ j v, vs[j]? = some v → W.cell? ⟨b, j, none⟩ = some v))
theorem NewL.start {N : Nat} {vs : List Value} {p s : Nat} {vals : Nat → Value} {W : World} (hN : N ≤ W.heap.size) : NewL N vs p s (fun _ => false) vals W := ⟨hN, (fun h => by cases h), (fun h => by cases h)⟩
theorem NewL.next {N : Nat} {vs : List Value} {p s : Nat} {L : Nat → Bool} {vals : Nat → Value} {W W' : World} (h : NewL N vs p s L vals W) (hb : Below W.heap.size W W') {i : Nat} {v : Value} (h1 : p ≠ i) (h2 : s ≠ i) : NewL N vs p s (upd L i true) (upd vals i v) W' := by
  refine ⟨Nat.le_trans h.1 hb.size, fun e => ?_, fun e => ?_⟩
  · rw [upd_other _ _ h1]; rw [upd_other _ _ h2] at e; exact h.2.1 e
  rw [upd_other _ _ h1] at e
  obtain ⟨b, k1, k2, k3, k4, k5, k7⟩ := h.2.2 e
  refine ⟨b, by rw [upd_other _ _ h1]; exact k1, k2, Nat.lt_of_lt_of_le k3 hb.size, fun i => (hb.frozen (p := ⟨b, i, none⟩) k3).trans (k4 i), fun j hj => ?_, fun e2 j v hv => ?_⟩
  · obtain ⟨u, hu⟩ := k5 j hj
    exact ⟨u, (hb.cell (p := ⟨b, j, none⟩) k3).trans hu⟩
  · rw [upd_other _ _ h2] at e2
    exact (hb.cell (p := ⟨b, j, none⟩) k3).trans (k7 e2 j v hv)
theorem NewL.pure {N : Nat} {vs : List Value} {p s : Nat} {L : Nat → Bool} {vals : Nat → Value} {W : World} (h : NewL N vs p s L vals W) {i : Nat} {v : Value} (h1 : p ≠ i) (h2 : s ≠ i) : NewL N vs p s (upd L i true) (upd vals i v) W := h.next (Below.refl _ _) h1 h2
theorem NewL.made {N : Nat} {vs : List Value} {cs : Array Value} {t : TypeId} {p s : Nat} {L : Nat → Bool} {vals : Nat → Value} {W : World} (h : NewL N vs p s L vals W) (hp : L p = false) (hps : s ≠ p) (hl : vs.length = cs.size) : NewL N vs p s (upd L p true) (upd vals p (.pointer (some ⟨W.heap.size, 0, none⟩))) (W.alloc (.cells cs t)) := by
  refine ⟨Nat.le_trans h.1 (by simp), fun _ => upd_same _ _ _, fun _ => ?_⟩
  refine ⟨W.heap.size, upd_same _ _ _, h.1, by simp, fun i => World.frozen?_alloc_new _ _ _ _, fun j hj => ⟨cs[j]'(by omega), ?_⟩, fun e => ?_⟩
  · unfold World.cell?
    rw [heap_alloc_new]
    simp [show j < cs.size by omega]
  · rw [upd_other _ _ hps] at e
    have := h.2.1 e
    rw [hp] at this
    cases this
theorem NewL.set {N : Nat} {vs : List Value} {p s : Nat} {L : Nat → Bool} {vals : Nat → Value} {W : World} {b : Nat} (h : NewL N vs p s L vals W) (hL : L p = true) (hb : vals p = .pointer (some ⟨b, 0, none⟩)) {v : Value} (hps : p ≠ s) : NewL N vs p s (upd L s true) (upd vals s v) (setAll b 0 vs W) := by
  have sz : W.heap.size ≤ (setAll b 0 vs W).heap.size := (setAll_below (B := 0) (w := W) (Nat.zero_le _) vs 0 W (Below.refl _ _)).size
  refine ⟨Nat.le_trans h.1 sz, fun _ => by rw [upd_other _ _ hps]; exact hL, fun _ => ?_⟩
  obtain ⟨b', k1, k2, k3, k4, k5, _⟩ := h.2.2 hL
  rw [hb] at k1
  injection k1 with k1
  injection k1 with k1
  injection k1 with k1
  subst k1
  have key : ∀ j v, vs[j]? = some v → (setAll b 0 vs W).cell? ⟨b, j, none⟩ = some v := fun j v hv => by
    have := setAll_at vs 0 W j v (fun i hi => by rw [Nat.zero_add]; obtain ⟨u, hu⟩ := k5 i hi; rw [hu]; rfl) hv
    rwa [Nat.zero_add] at this
  exact ⟨b, by rw [upd_other _ _ hps]; exact hb, k2, Nat.lt_of_lt_of_le k3 sz, fun i => (setAll_frozen _ _ _ _).trans (k4 i), fun j hj => ⟨vs[j], key j _ (List.getElem?_eq_getElem hj)⟩, fun _ => key⟩
theorem HeldL.setAll {w W : World} {Lb : List (Nat × List Value)} {N b : Nat} (hN : ∀ e ∈ Lb, e.1 < N) (hw : w.heap.size ≤ N) (hb : N ≤ b) : ∀ (vs : List Value) (o : Nat) {W : World}, HeldL w Lb W → HeldL w Lb (setAll b o vs W)
  | [], _, _, h => h
  | _ :: vs, o, _, h => HeldL.setAll (W := W) hN hw hb vs (o + 1) (HeldL.setCell _ _ (by dsimp only; omega) (fun e he => by have := hN e he; dsimp only; omega) h)
theorem HeldL.withNewL {w W : World} {Lb : List (Nat × List Value)} {b : Nat} {vs : List Value} (h : HeldL w Lb W) (hb : w.heap.size ≤ b) (h1 : b < W.heap.size) (h2 : ∀ i, W.frozen? ⟨b, i, none⟩ = false) (h3 : ∀ j v, vs[j]? = some v → W.cell? ⟨b, j, none⟩ = some v) : HeldL w ((b, vs) :: Lb) W := by
  refine ⟨h.below, fun e he => ?_, fun e he i => ?_⟩
  · rcases List.mem_cons.1 he with rfl | he
    · exact ⟨hb, h1, h3⟩
    · exact h.cells e he
  · rcases List.mem_cons.1 he with rfl | he
    · exact h2 i
    · exact h.free e he i
end Go.Proofs.YtiehokibfdaleaaDoor
namespace Go.Proofs.YtiehokibfdaleaaDoor
open Go.ChangeShapes Go.WideShapes Go.ChangeAt Go.RowKit

def TX (_ : Nat) (W W' : World) : Prop := Below W.heap.size W W'
/-- What is held, and that nothing older than V has turned. -/
def HX (w V : World) (L : List (Nat × List Value)) (W : World) : Prop := HeldL w L W ∧ Below V.heap.size V W
theorem HX.next {w V : World} {L : List (Nat × List Value)} {W W' : World} (hb : Below W.heap.size W W') (h : HX w V L W) : HX w V L W' := ⟨h.1.next hb, below_tr h.2 hb⟩
theorem HX.cell {w V : World} {L : List (Nat × List Value)} {W : World} (h : HX w V L W) {e : Nat × List Value} (he : e ∈ L) {i : Nat} {v : Value} (hv : e.2[i]? = some v) : W.cell? ⟨e.1, i, none⟩ = some v := h.1.cell he hv
theorem HX.below {w V : World} {L : List (Nat × List Value)} {W : World} (h : HX w V L W) : Below w.heap.size w W := h.1.below
theorem HX.beh {w V : World} {L : List (Nat × List Value)} {W : World} (h : HX w V L W) : Below V.heap.size V W := h.2
theorem HX.drew {w V : World} {L : List (Nat × List Value)} {W : World} (h : HX w V L W) : HX w V L W.drew := h.next (Below.refl _ W).drew
theorem HX.alloc {w V : World} {L : List (Nat × List Value)} {W : World} (o : Obj) (h : HX w V L W) : HX w V L (W.alloc o) := h.next ((Below.refl _ _).alloc (Nat.le_refl _) o)
theorem HX.setAll {w V : World} {Lb : List (Nat × List Value)} {N b : Nat} (hN : ∀ e ∈ Lb, e.1 < N) (hw : w.heap.size ≤ N) (hV : V.heap.size ≤ N) (hb : N ≤ b) (vs : List Value) (o : Nat) {W : World} (h : HX w V Lb W) : HX w V Lb (setAll b o vs W) :=
  ⟨HeldL.setAll (W := W) hN hw hb vs o h.1, setAll_below (Nat.le_trans hV hb) vs o W h.2⟩
/-- A copy that a region makes (operation j) and a call of it uses (operation k): it is there between the two. -/
def Cp (j k : Nat) (V : Value → World → Prop) (L : Nat → Bool) (vals : Nat → Value) (W : World) : Prop := L j = true → L k = false → V (vals j) W
theorem Cp.start {j k : Nat} {V : Value → World → Prop} {vals : Nat → Value} {W : World} : Cp j k V (fun _ => false) vals W := fun e => by cases e
theorem Cp.keep {j k : Nat} {V : Value → World → Prop} {L : Nat → Bool} {vals : Nat → Value} {W W' : World} (h : Cp j k V L vals W) (hV : ∀ v, V v W → V v W') {i : Nat} {v : Value} (h1 : j ≠ i) (h2 : k ≠ i) : Cp j k V (upd L i true) (upd vals i v) W' := by
  intro e1 e2
  rw [upd_other _ _ h1] at e1 ⊢
  rw [upd_other _ _ h2] at e2
  exact hV _ (h e1 e2)
theorem Cp.put {j k : Nat} {V : Value → World → Prop} {L : Nat → Bool} {vals : Nat → Value} {W : World} {v : Value} (h : V v W) : Cp j k V (upd L j true) (upd vals j v) W := by
  intro _ _
  rw [upd_same]; exact h
theorem Cp.done {j k : Nat} {V : Value → World → Prop} {L : Nat → Bool} {vals : Nat → Value} {W : World} {v : Value} : Cp j k V (upd L k true) (upd vals k v) W := by
  intro _ e
  rw [upd_same] at e; cases e
theorem Cp.past {j k : Nat} {V : Value → World → Prop} {L : Nat → Bool} {vals : Nat → Value} {W : World} {i : Nat} {v : Value} (hk : L k = true) (h2 : k ≠ i) : Cp j k V (upd L i true) (upd vals i v) W := by
  intro _ e
  rw [upd_other _ _ h2, hk] at e; cases e
end Go.Proofs.YtiehokibfdaleaaDoor
