/- Whatever program and run are handed in, the law FnExactRunDepth returns true: the program's RunDepth answers as the model's, and turns nothing of its arguments. No condition. Of programs and runs of more than 1048576 entries the law itself answers true. -/
import Derived.Test.YtndedplmcjfgeaaOpenPrg
import Derived.Test.YtndedplmcjfgeaaOpenRun
import Derived.Test.YtndedplmcjfgeaaRunLaw
import Derived.Test.YtndedplmcjfgeaaHeld8
import Derived.Deep.RegionHeld3
import Derived.Deep.DeepCutAuto
import Derived.WalkKit
import Derived.ProofKit
import Derived.OpenShut
import Derived.ShutString
import Derived.ChangeOld
import Derived.Below
namespace Go.Proofs.Ytndedplmcjfgeaa.fnExactRunDepth
open Go.ChangeShapes Go.WideShapes Go.ChangeAt Go.RowKit
open Go.ChangeMaps (open_string shut_string)
set_option linter.unusedVariables false

theorem own : ownKnob Try.prog.godebug = none := by kernel_rfl
theorem laidOut : laidOutB Try.prog = true := by kernel_rfl

theorem depthS_is (a : Option Addr) (b off m cap : Nat) (P : Nat → Proc) (S : Nat → Spot) (st out pr pc : Int) (fa : Option Addr) (fb fo q fcap : Nat) (F : Nat → Frm) (R : Nat → FSpot) (w : World) (d : Int) (hm : m ≤ 1048576) (hnn : ∀ i, i < m → (P i).n ≤ 1048576) (hq : q ≤ 1048576) (hn : ∀ i, i < q → (F i).nv ≤ 1048576 ∧ (F i).nc ≤ 1048576) (hP : ProcsAt a b off m P S w) (hF : FramesAt fa fb fo q F R w) (hv : depthV P m st out pr pc q F = d) :
    Calls Try.prog 25 #[.agg #[.slice a m cap], .agg #[.int .i64 st, .slice fa q fcap, .int .i64 out, .int .i64 pr, .int .i64 pc]] w fun e w' => e = .returned (.int .i64 d) ∧ Below w.heap.size w w' := by
  subst hv; exact depthS a b off m cap P S st out pr pc fa fb fo q fcap F R w hm hnn hq hn hP hF
theorem depthI_is (a : Option Addr) (b off m cap : Nat) (P : Nat → Proc) (S : Nat → Spot) (st out pr pc : Int) (fa : Option Addr) (fb fo q fcap : Nat) (F : Nat → Frm) (R : Nat → FSpot) (w : World) (d : Int) (hm : m ≤ 1048576) (hnn : ∀ i, i < m → (P i).n ≤ 1048576) (hq : q ≤ 1048576) (hn : ∀ i, i < q → (F i).nv ≤ 1048576 ∧ (F i).nc ≤ 1048576) (hP : ProcsAt a b off m P S w) (hF : FramesAt fa fb fo q F R w) (hv : depthV P m st out pr pc q F = d) :
    Calls Try.prog 26 #[.agg #[.slice a m cap], .agg #[.int .i64 st, .slice fa q fcap, .int .i64 out, .int .i64 pr, .int .i64 pc]] w fun e w' => e = .returned (.int .i64 d) ∧ Below w.heap.size w w' := by
  subst hv; exact depthI a b off m cap P S st out pr pc fa fb fo q fcap F R w hm hnn hq hn hP hF

set_option maxRecDepth 10000 in
set_option maxHeartbeats 40000000 in
theorem walk (a0 : Option Addr) (m0 cap0 b0 off0 : Nat) (P0 : Nat → Proc) (S0 : Nat → Spot) (hm0 : m0 ≤ maxLen) (hn0 : ∀ i, i < m0 → (P0 i).n ≤ maxLen) (st1 out1 pr1 pc1 : Int) (wst1 : (Lit.int .i64 st1).wf = true) (wout1 : (Lit.int .i64 out1).wf = true) (wpr1 : (Lit.int .i64 pr1).wf = true) (wpc1 : (Lit.int .i64 pc1).wf = true) (a1 : Option Addr) (m1 cap1 b1 off1 : Nat) (F1 : Nat → Frm) (S1 : Nat → FSpot) (hm1 : m1 ≤ maxLen) (hn1 : ∀ i, i < m1 → (F1 i).nv ≤ maxLen ∧ (F1 i).nc ≤ maxLen) (w : World) (r0 : ProcsAt a0 b0 off0 m0 P0 S0 w) (r1 : FramesAt a1 b1 off1 m1 F1 S1 w) :
    Calls Try.prog 7 #[.agg #[.slice a0 m0 cap0], .agg #[.int .i64 st1, .slice a1 m1 cap1, .int .i64 out1, .int .i64 pr1, .int .i64 pc1]] w fun e w' => e = .returned (.bool true) ∧ Below w.heap.size w w' := by
  have hm1' := hm1
  have hn1' := hn1
  clear hm1 hn1
  have H0 : HeldL w [(w.heap.size + 1, [Value.int .i64 st1, .slice a1 m1 cap1, .int .i64 out1, .int .i64 pr1, .int .i64 pc1]), (w.heap.size, [Value.slice a0 m0 cap0])] ((w.alloc (.cells #[.slice a0 m0 cap0] 24)).alloc (.cells #[.int .i64 st1, .slice a1 m1 cap1, .int .i64 out1, .int .i64 pr1, .int .i64 pc1] 42)) := by
    have e1 : w.heap.size + 1 = (w.alloc (.cells #[.slice a0 m0 cap0] 24)).heap.size := by simp
    rw [e1]
    exact HeldL.newL (vs := [Value.int .i64 st1, .slice a1 m1 cap1, .int .i64 out1, .int .i64 pr1, .int .i64 pc1]) (HeldL.newL (vs := [Value.slice a0 m0 cap0]) (HeldL.nil w))
  obtain ⟨Lb, hLb⟩ : ∃ L, L = [(w.heap.size + 1, [Value.int .i64 st1, .slice a1 m1 cap1, .int .i64 out1, .int .i64 pr1, .int .i64 pc1]), (w.heap.size, [Value.slice a0 m0 cap0])] := ⟨_, rfl⟩
  have mR : (w.heap.size + 1, [Value.int .i64 st1, .slice a1 m1 cap1, .int .i64 out1, .int .i64 pr1, .int .i64 pc1]) ∈ Lb := by rw [hLb]; simp
  have mP : (w.heap.size, [Value.slice a0 m0 cap0]) ∈ Lb := by rw [hLb]; simp
  rw [← hLb] at H0
  clear hLb
  go_enter Try.func7, Try.ntmps7
  go_wp2_with fail
  refine (szPrg2 _ _ _ _ _ _ _ _ hm0 (r0.next H0.below) hn0).mono ?_
  rintro e w1 ⟨q, rfl, hq, hb⟩
  have H1 := H0.next hb
  clear H0 hb
  rcases hq with rfl | ⟨hsz, hq0, hq9⟩
  · go_wp2_with fail
    go_ret
    exact ⟨rfl, H1.below⟩
  have hm : m0 ≤ 1048576 := by omega
  have hnn : ∀ i, i < m0 → (P0 i).n ≤ 1048576 := fun i hi => by have := sizeTo_le (P := P0) hi; omega
  have hq' : ¬ q < 0 := by omega
  clear hn0 hsz
  have c0 := H1.cell mR (i := 0) rfl
  have c1 := H1.cell mR (i := 1) rfl
  have c2 := H1.cell mR (i := 2) rfl
  have c3 := H1.cell mR (i := 3) rfl
  have c4 := H1.cell mR (i := 4) rfl
  dsimp only at c0 c1 c2 c3 c4
  go_wp2_with fail
  refine (szRun _ _ _ _ _ _ _ _ _ _ _ _ _ ⟨hq0, hq9⟩ hm1' (r1.next H1.below) hn1').mono ?_
  rintro e w2 ⟨q2, rfl, hq2, hb⟩
  have H2 := H1.next hb
  clear H1 hb c0 c1 c2 c3 c4
  rcases hq2 with rfl | ⟨hsz, hq20⟩
  · go_wp2_with fail
    go_ret
    exact ⟨rfl, H2.below⟩
  have hm1 : m1 ≤ 1048576 := by omega
  have hn1 : ∀ i, i < m1 → (F1 i).nv ≤ 1048576 ∧ (F1 i).nc ≤ 1048576 := fun i hi => by have := frmTo_le (F := F1) hi; omega
  have hq2' : ¬ q2 < 0 := by omega
  clear hsz hn1' hq' hq9 hq0 hq20
  obtain ⟨d, hd0'⟩ : ∃ d, depthV P0 m0 st1 out1 pr1 pc1 m1 F1 = d := ⟨_, rfl⟩
  have hd0 : Hid (depthV P0 m0 st1 out1 pr1 pc1 m1 F1 = d) := hd0'
  clear hd0'
  have hS0 := H2.drew
  clear H2
  go_wp2_with fail
  refine region_inv3 [(0, 20), (1, 21), (2, 22), (3, 23), (4, 24), (5, 6)]
    (fun j v W => match j with
      | 0 => Is (.agg #[.slice a0 m0 cap0]) v
      | 1 => PrgV P0 m0 v W
      | 2 => Is (.agg #[.int .i64 st1, .slice a1 m1 cap1, .int .i64 out1, .int .i64 pr1, .int .i64 pc1]) v
      | 3 => RunV st1 out1 pr1 pc1 m1 F1 v W
      | 4 => Is (.int .i64 d) v
      | 5 => Is (.int .i64 d) v
      | _ => True)
    (fun _ W => HeldL w Lb W) TB
    (by kernel_rfl) (by kernel_rfl) (by kernel_rfl) (by kernel_rfl) (by kernel_rfl) rfl hS0 ?_ ?_ ?_
  · intro i j v W W' hji hφ hT
    match j, hji, hφ with
    | 0, _, hφ => exact hφ
    | 1, _, hφ => exact PrgV.next hφ hT
    | 2, _, hφ => exact hφ
    | 3, _, hφ => exact RunV.next hφ hT
    | 4, _, hφ => exact hφ
    | 5, _, hφ => exact hφ
    | _ + 6, _, _ => trivial
  · intro i L vals W hi' hφ hS hL hd
    have hi2 : i < 6 := hi'
    clear hi'
    rcases (show i = 0 ∨ i = 1 ∨ i = 2 ∨ i = 3 ∨ i = 4 ∨ i = 5 by omega) with rfl | rfl | rfl | rfl | rfl | rfl
    · have c0 := HeldL.cell hS mP (i := 0) rfl
      dsimp only at c0
      refine wpAt_of rfl rfl ?_
      simp only [frOf, Act.put]
      go_wp2_with fail
      first | exact ⟨trivial, rfl, Below.refl _ _, hS⟩ | exact ⟨rfl, Below.refl _ _, hS⟩
    · have k0 : vals 0 = .agg #[.slice a0 m0 cap0] := hφ 0 (hd 0 (by decide))
      refine wpAt_of rfl rfl ?_
      simp only [frOf, Act.put]
      go_wp2_with fail
      refine (toPrg _ _ _ _ _ _ _ _ hm hnn (r0.next (HeldL.below hS))).mono ?_
      rintro e W' ⟨g, S', rfl, ga, gb, hK, _, hC, hb⟩
      go_wp2_with fail
      first | exact ⟨trivial, ⟨g, S', rfl, gb, hK, hC⟩, hb, HeldL.next hb hS⟩ | exact ⟨⟨g, S', rfl, gb, hK, hC⟩, hb, HeldL.next hb hS⟩
    · have c0 := HeldL.cell hS mR (i := 0) rfl
      have c1 := HeldL.cell hS mR (i := 1) rfl
      have c2 := HeldL.cell hS mR (i := 2) rfl
      have c3 := HeldL.cell hS mR (i := 3) rfl
      have c4 := HeldL.cell hS mR (i := 4) rfl
      dsimp only at c0 c1 c2 c3 c4
      refine wpAt_of rfl rfl ?_
      simp only [frOf, Act.put]
      go_wp2_with fail
      first | exact ⟨trivial, rfl, Below.refl _ _, hS⟩ | exact ⟨rfl, Below.refl _ _, hS⟩
    · have k2 : vals 2 = .agg #[.int .i64 st1, .slice a1 m1 cap1, .int .i64 out1, .int .i64 pr1, .int .i64 pc1] := hφ 2 (hd 2 (by decide))
      refine wpAt_of rfl rfl ?_
      simp only [frOf, Act.put]
      go_wp2_with fail
      refine (toRun _ _ _ _ _ _ _ _ _ _ _ _ hm1 hn1 (r1.next (HeldL.below hS))).mono ?_
      rintro e W' ⟨g, S', rfl, ga, gb, hK, _, hC, hb⟩
      go_wp2_with fail
      first | exact ⟨trivial, ⟨g, S', rfl, gb, hK, hC⟩, hb, HeldL.next hb hS⟩ | exact ⟨⟨g, S', rfl, gb, hK, hC⟩, hb, HeldL.next hb hS⟩
    · obtain ⟨g1, S1, k1, l1, q1, y1⟩ : PrgV P0 m0 (vals 1) W := hφ 1 (hd 1 (by decide))
      obtain ⟨g3, S3, k3, l3, q3, y3⟩ : RunV st1 out1 pr1 pc1 m1 F1 (vals 3) W := hφ 3 (hd 3 (by decide))
      refine wpAt_of rfl rfl ?_
      simp only [frOf, Act.put]
      go_wp2_with fail
      refine (depthS_is _ _ _ _ _ _ _ _ _ _ _ _ _ _ _ _ _ _ _ d hm hnn hm1 hn1 q1 q3 hd0.out).mono ?_
      rintro e W' ⟨rfl, hb⟩
      go_wp2_with fail
      first | exact ⟨trivial, rfl, hb, HeldL.next hb hS⟩ | exact ⟨rfl, hb, HeldL.next hb hS⟩
    · have k4 : vals 4 = .int .i64 d := hφ 4 (hd 4 (by decide))
      refine wpAt_of rfl rfl ?_
      simp only [frOf, Act.put]
      go_wp2_with fail
      first | exact ⟨trivial, rfl, Below.refl _ _, hS⟩ | exact ⟨rfl, Below.refl _ _, hS⟩
  · intro L vals W hall hφ hS
    have k0 : vals 0 = .agg #[.slice a0 m0 cap0] := hφ 0 (by decide)
    have k2 : vals 2 = .agg #[.int .i64 st1, .slice a1 m1 cap1, .int .i64 out1, .int .i64 pr1, .int .i64 pc1] := hφ 2 (by decide)
    have k4 : vals 4 = .int .i64 d := hφ 4 (by decide)
    have k5 : vals 5 = .int .i64 d := hφ 5 (by decide)
    simp only [frOf, Act.put, List.setIfInBounds_toArray, List.set_cons_succ, List.set_cons_zero, k0, k2, k4, k5]
    clear k0 k2 k4 k5 hall hφ hS0
    have c0 := HeldL.cell hS mP (i := 0) rfl
    dsimp only at c0
    go_wp2_with fail
    refine (toPrg _ _ _ _ _ _ _ _ hm hnn (r0.next hS.below)).mono ?_
    rintro e w3 ⟨gP, SP, rfl, _, gPl, pP, _, cP, hb⟩
    have H3 := HeldL.newL (vs := [Value.slice (some ⟨gP, 0, none⟩) m0 m0]) (t := 29) (HeldL.next hb hS)
    have pP := pP.next ((Below.refl _ _).alloc (Nat.le_refl _) (.cells #[.slice (some ⟨gP, 0, none⟩) m0 m0] 29))
    clear hS hb c0
    have c0 := H3.cell (List.mem_cons_of_mem _ mR) (i := 0) rfl
    have c1 := H3.cell (List.mem_cons_of_mem _ mR) (i := 1) rfl
    have c2 := H3.cell (List.mem_cons_of_mem _ mR) (i := 2) rfl
    have c3 := H3.cell (List.mem_cons_of_mem _ mR) (i := 3) rfl
    have c4 := H3.cell (List.mem_cons_of_mem _ mR) (i := 4) rfl
    dsimp only at c0 c1 c2 c3 c4
    obtain ⟨X, hX⟩ : ∃ X, X = w3.heap.size := ⟨_, rfl⟩
    rw [← hX] at H3
    have hXS : Hid (X = w3.heap.size) := hX
    clear hX
    go_wp2_with fail
    rw [← hXS.out]
    clear hXS
    refine (toRun _ _ _ _ _ _ _ _ _ _ _ _ hm1 hn1 (r1.next H3.below)).mono ?_
    rintro e w4 ⟨gR, SR, rfl, _, gRl, pR, _, cR, hb⟩
    have H4 := HeldL.newL (vs := [Value.int .i64 st1, .slice (some ⟨gR, 0, none⟩) m1 m1, .int .i64 out1, .int .i64 pr1, .int .i64 pc1]) (t := 47) (H3.next hb)
    have k4 : Below w4.heap.size w4 (w4.alloc (.cells #[.int .i64 st1, .slice (some ⟨gR, 0, none⟩) m1 m1, .int .i64 out1, .int .i64 pr1, .int .i64 pc1] 47)) := (Below.refl _ _).alloc (Nat.le_refl _) _
    have pP := pP.next (below_tr hb k4)
    have pR := pR.next k4
    have gPl : gP < (w4.alloc (.cells #[.int .i64 st1, .slice (some ⟨gR, 0, none⟩) m1 m1, .int .i64 out1, .int .i64 pr1, .int .i64 pc1] 47)).heap.size := by have := hb.size; simp at this; simp; omega
    clear H3 hb c0 c1 c2 c3 c4 k4
    obtain ⟨Y, hY⟩ : ∃ Y, Y = w4.heap.size := ⟨_, rfl⟩
    rw [← hY] at H4
    have hYS : Hid (Y = w4.heap.size) := hY
    clear hY
    obtain ⟨Lc, hLc⟩ : ∃ L, L = (Y, [Value.int .i64 st1, .slice (some ⟨gR, 0, none⟩) m1 m1, .int .i64 out1, .int .i64 pr1, .int .i64 pc1]) :: (X, [Value.slice (some ⟨gP, 0, none⟩) m0 m0]) :: Lb := ⟨_, rfl⟩
    rw [← hLc] at H4
    have mY : (Y, [Value.int .i64 st1, .slice (some ⟨gR, 0, none⟩) m1 m1, .int .i64 out1, .int .i64 pr1, .int .i64 pc1]) ∈ Lc := by rw [hLc]; simp
    have mX : (X, [Value.slice (some ⟨gP, 0, none⟩) m0 m0]) ∈ Lc := by rw [hLc]; simp
    have mR1 : (w.heap.size + 1, [Value.int .i64 st1, .slice a1 m1 cap1, .int .i64 out1, .int .i64 pr1, .int .i64 pc1]) ∈ Lc := by rw [hLc]; simp [mR]
    have mP1 : (w.heap.size, [Value.slice a0 m0 cap0]) ∈ Lc := by rw [hLc]; simp [mP]
    clear hLc mR mP
    have mR := mR1
    have mP := mP1
    clear mR1 mP1
    have x0 := H4.cell mX (i := 0) rfl
    have y0 := H4.cell mY (i := 0) rfl
    have y1 := H4.cell mY (i := 1) rfl
    have y2 := H4.cell mY (i := 2) rfl
    have y3 := H4.cell mY (i := 3) rfl
    have y4 := H4.cell mY (i := 4) rfl
    dsimp only at x0 y0 y1 y2 y3 y4
    go_wp2_with fail
    rw [← hYS.out]
    refine (depthI_is _ _ _ _ _ _ _ _ _ _ _ _ _ _ _ _ _ _ _ d hm hnn hm1 hn1 pP pR hd0.out).mono ?_
    rintro e w5 ⟨rfl, hb⟩
    have H5 := H4.next hb
    have pP := pP.next hb
    have pR := pR.next hb
    have gPl : gP < w5.heap.size := Nat.lt_of_lt_of_le gPl hb.size
    clear H4 hb x0 y0 y1 y2 y3 y4 hYS
    have hS0 : HB w w5 Lc w5.drew := ⟨H5.drew, (Below.refl _ w5).drew⟩
    clear H5
    go_wp2_with fail
    refine region_inv3 [(0, 35), (1, 36), (2, 37), (3, 38), (4, 39)]
      (fun j v W => match j with
        | 0 => Is (.agg #[.slice (some ⟨gP, 0, none⟩) m0 m0]) v
        | 1 => Is (.agg #[.slice a0 m0 cap0]) v
        | 2 => PrgV P0 m0 v W
        | 3 => Is (.bool true) v
        | 4 => Is (.bool false) v
        | _ => True)
      (fun _ W => HB w w5 Lc W) TB
      (by kernel_rfl) (by kernel_rfl) (by kernel_rfl) (by kernel_rfl) (by kernel_rfl) rfl hS0 ?_ ?_ ?_
    · intro i j v W W' hji hφ hT
      match j, hji, hφ with
      | 0, _, hφ => exact hφ
      | 1, _, hφ => exact hφ
      | 2, _, hφ => exact PrgV.next hφ hT
      | 3, _, hφ => exact hφ
      | 4, _, hφ => exact hφ
      | _ + 5, _, _ => trivial
    · intro i L vals W hi' hφ hS hL hd
      have hi2 : i < 5 := hi'
      clear hi'
      rcases (show i = 0 ∨ i = 1 ∨ i = 2 ∨ i = 3 ∨ i = 4 by omega) with rfl | rfl | rfl | rfl | rfl
      · have c0 := HB.cell hS mX (i := 0) rfl
        dsimp only at c0
        refine wpAt_of rfl rfl ?_
        simp only [frOf, Act.put]
        go_wp2_with fail
        first | exact ⟨trivial, rfl, Below.refl _ _, hS⟩ | exact ⟨rfl, Below.refl _ _, hS⟩
      · have c0 := HB.cell hS mP (i := 0) rfl
        dsimp only at c0
        refine wpAt_of rfl rfl ?_
        simp only [frOf, Act.put]
        go_wp2_with fail
        first | exact ⟨trivial, rfl, Below.refl _ _, hS⟩ | exact ⟨rfl, Below.refl _ _, hS⟩
      · have k1 : vals 1 = .agg #[.slice a0 m0 cap0] := hφ 1 (hd 1 (by decide))
        refine wpAt_of rfl rfl ?_
        simp only [frOf, Act.put]
        go_wp2_with fail
        refine (toPrg _ _ _ _ _ _ _ _ hm hnn (r0.next (HB.below hS))).mono ?_
        rintro e W' ⟨g, S', rfl, ga, gb, hK, _, hC, hb⟩
        go_wp2_with fail
        first | exact ⟨trivial, ⟨g, S', rfl, gb, hK, hC⟩, hb, HB.next hb hS⟩ | exact ⟨⟨g, S', rfl, gb, hK, hC⟩, hb, HB.next hb hS⟩
      · have k0 : vals 0 = .agg #[.slice (some ⟨gP, 0, none⟩) m0 m0] := hφ 0 (hd 0 (by decide))
        obtain ⟨g2, S2, k2, l2, q2, y2⟩ : PrgV P0 m0 (vals 2) W := hφ 2 (hd 2 (by decide))
        refine wpAt_of rfl rfl ?_
        simp only [frOf, Act.put]
        go_wp2_with fail
        refine (eqPrg _ _ _ _ _ _ _ hm hnn ⟨Nat.lt_of_lt_of_le gPl (HB.beh hS).size, l2⟩ (pP.next (HB.beh hS)) q2 cP y2).mono ?_
        rintro e W' ⟨rfl, hb⟩
        go_wp2_with fail
        first | exact ⟨trivial, rfl, hb, HB.next hb hS⟩ | exact ⟨rfl, hb, HB.next hb hS⟩
      · have k3 : vals 3 = .bool true := hφ 3 (hd 3 (by decide))
        refine wpAt_of rfl rfl ?_
        simp only [frOf, Act.put]
        go_wp2_with fail
        first | exact ⟨trivial, rfl, Below.refl _ _, hS⟩ | exact ⟨rfl, Below.refl _ _, hS⟩
    · intro L vals W hall hφ hS
      have k0 : vals 0 = .agg #[.slice (some ⟨gP, 0, none⟩) m0 m0] := hφ 0 (by decide)
      have k1 : vals 1 = .agg #[.slice a0 m0 cap0] := hφ 1 (by decide)
      have k3 : vals 3 = .bool true := hφ 3 (by decide)
      have k4 : vals 4 = .bool false := hφ 4 (by decide)
      simp only [frOf, Act.put, List.setIfInBounds_toArray, List.set_cons_succ, List.set_cons_zero, k0, k1, k3, k4]
      clear k0 k1 k3 k4 hall hφ hS0
      have hS0 := hS.drew
      clear hS
      go_wp2_with fail
      refine region_inv3 [(0, 40), (1, 41), (2, 42), (3, 43), (4, 44)]
        (fun j v W => match j with
          | 0 => Is (.agg #[.int .i64 st1, .slice (some ⟨gR, 0, none⟩) m1 m1, .int .i64 out1, .int .i64 pr1, .int .i64 pc1]) v
          | 1 => Is (.agg #[.int .i64 st1, .slice a1 m1 cap1, .int .i64 out1, .int .i64 pr1, .int .i64 pc1]) v
          | 2 => RunV st1 out1 pr1 pc1 m1 F1 v W
          | 3 => Is (.bool true) v
          | 4 => Is (.bool false) v
          | _ => True)
        (fun _ W => HB w w5 Lc W) TB
        (by kernel_rfl) (by kernel_rfl) (by kernel_rfl) (by kernel_rfl) (by kernel_rfl) rfl hS0 ?_ ?_ ?_
      · intro i j v W W' hji hφ hT
        match j, hji, hφ with
        | 0, _, hφ => exact hφ
        | 1, _, hφ => exact hφ
        | 2, _, hφ => exact RunV.next hφ hT
        | 3, _, hφ => exact hφ
        | 4, _, hφ => exact hφ
        | _ + 5, _, _ => trivial
      · intro i L vals W hi' hφ hS hL hd
        have hi2 : i < 5 := hi'
        clear hi'
        rcases (show i = 0 ∨ i = 1 ∨ i = 2 ∨ i = 3 ∨ i = 4 by omega) with rfl | rfl | rfl | rfl | rfl
        · have c0 := HB.cell hS mY (i := 0) rfl
          have c1 := HB.cell hS mY (i := 1) rfl
          have c2 := HB.cell hS mY (i := 2) rfl
          have c3 := HB.cell hS mY (i := 3) rfl
          have c4 := HB.cell hS mY (i := 4) rfl
          dsimp only at c0 c1 c2 c3 c4
          refine wpAt_of rfl rfl ?_
          simp only [frOf, Act.put]
          go_wp2_with fail
          first | exact ⟨trivial, rfl, Below.refl _ _, hS⟩ | exact ⟨rfl, Below.refl _ _, hS⟩
        · have c0 := HB.cell hS mR (i := 0) rfl
          have c1 := HB.cell hS mR (i := 1) rfl
          have c2 := HB.cell hS mR (i := 2) rfl
          have c3 := HB.cell hS mR (i := 3) rfl
          have c4 := HB.cell hS mR (i := 4) rfl
          dsimp only at c0 c1 c2 c3 c4
          refine wpAt_of rfl rfl ?_
          simp only [frOf, Act.put]
          go_wp2_with fail
          first | exact ⟨trivial, rfl, Below.refl _ _, hS⟩ | exact ⟨rfl, Below.refl _ _, hS⟩
        · have k1 : vals 1 = .agg #[.int .i64 st1, .slice a1 m1 cap1, .int .i64 out1, .int .i64 pr1, .int .i64 pc1] := hφ 1 (hd 1 (by decide))
          refine wpAt_of rfl rfl ?_
          simp only [frOf, Act.put]
          go_wp2_with fail
          refine (toRun _ _ _ _ _ _ _ _ _ _ _ _ hm1 hn1 (r1.next (HB.below hS))).mono ?_
          rintro e W' ⟨g, S', rfl, ga, gb, hK, _, hC, hb⟩
          go_wp2_with fail
          first | exact ⟨trivial, ⟨g, S', rfl, gb, hK, hC⟩, hb, HB.next hb hS⟩ | exact ⟨⟨g, S', rfl, gb, hK, hC⟩, hb, HB.next hb hS⟩
        · have k0 : vals 0 = .agg #[.int .i64 st1, .slice (some ⟨gR, 0, none⟩) m1 m1, .int .i64 out1, .int .i64 pr1, .int .i64 pc1] := hφ 0 (hd 0 (by decide))
          obtain ⟨g2, S2, k2, l2, q2, y2⟩ : RunV st1 out1 pr1 pc1 m1 F1 (vals 2) W := hφ 2 (hd 2 (by decide))
          refine wpAt_of rfl rfl ?_
          simp only [frOf, Act.put]
          go_wp2_with fail
          refine (eqRun _ _ _ _ _ _ _ _ _ _ _ hm1 hn1 (pR.next (HB.beh hS)) q2 cR y2).mono ?_
          rintro e W' ⟨rfl, hb⟩
          go_wp2_with fail
          first | exact ⟨trivial, rfl, hb, HB.next hb hS⟩ | exact ⟨rfl, hb, HB.next hb hS⟩
        · have k3 : vals 3 = .bool true := hφ 3 (hd 3 (by decide))
          refine wpAt_of rfl rfl ?_
          simp only [frOf, Act.put]
          go_wp2_with fail
          first | exact ⟨trivial, rfl, Below.refl _ _, hS⟩ | exact ⟨rfl, Below.refl _ _, hS⟩
      · intro L vals W hall hφ hS
        have k0 : vals 0 = .agg #[.int .i64 st1, .slice (some ⟨gR, 0, none⟩) m1 m1, .int .i64 out1, .int .i64 pr1, .int .i64 pc1] := hφ 0 (by decide)
        have k1 : vals 1 = .agg #[.int .i64 st1, .slice a1 m1 cap1, .int .i64 out1, .int .i64 pr1, .int .i64 pc1] := hφ 1 (by decide)
        have k3 : vals 3 = .bool true := hφ 3 (by decide)
        have k4 : vals 4 = .bool false := hφ 4 (by decide)
        simp only [frOf, Act.put, List.setIfInBounds_toArray, List.set_cons_succ, List.set_cons_zero, k0, k1, k3, k4]
        clear k0 k1 k3 k4 hall hφ hS0
        go_wp2_with fail
        go_ret
        exact ⟨rfl, hS.below⟩

set_option maxRecDepth 100000 in
theorem contract (H : Type) (enc : TypeId × Value → H) (W : World) (base : Nat) (args : Array Value) (ds gs : List (DataW H)) (before : List MemPlace)
    (hval : ∀ (j : Nat) t v, Try.f7.params[j]? = some t → args[j]? = some v → Value.okWide Try.prog W .any base t v)
    (hW : DataW.Whole enc Try.prog Try.f7.params.toList Rows.fnExactRunDepthSpec.vars false W args.toList ds gs before) :
    Calls Try.prog 7 args W fun e W' => ∃ v, e = .returned v ∧ Rows.fnExactRunDepthSpec.post enc Try.prog Try.f7 false true false false W args v W' := by
  have hW' := hW
  obtain ⟨p, q, hA0, hV, rfl, hfz, hnd⟩ := hW
  have hA : DataW.TrodAll enc Try.prog W 0 (fun _ => true) true Try.f7.params.toList args.toList ds p := hA0
  rw [Try.params7] at hA hval
  obtain ⟨v0, vs0, d0, ds0, p0, q0, hargs, rfl, rfl, h0, r0'⟩ := trodAll_cons hA
  obtain ⟨v1, vs1, d1, ds1, p1, q1, rfl, rfl, rfl, h1, r1'⟩ := trodAll_cons r0'
  obtain ⟨rfl, rfl, rfl⟩ := trodAll_nil r1'
  obtain rfl : args = #[v0, v1] := by cases args; simp_all
  obtain ⟨rfl, rfl⟩ := trodVars_none hV
  have k0 := h0
  have lt0 : ∀ x ∈ p0, x.block < W.heap.size := by obtain ⟨m, hm⟩ := k0; exact DataW.trod_lt m _ _ _ hm
  obtain ⟨a0, m0, cap0, rfl, hm0, hn0, r0⟩ := open_prog (hval 0 24 v0 rfl rfl) h0
  have k1 := h1
  have lt1 : ∀ x ∈ p1, x.block < W.heap.size := by obtain ⟨m, hm⟩ := k1; exact DataW.trod_lt m _ _ _ hm
  obtain ⟨st1, out1, pr1, pc1, a1, m1, cap1, rfl, wst1, wout1, wpr1, wpc1, hm1, hn1, r1⟩ := open_run (hval 1 42 v1 rfl rfl) h1
  clear hA0
  refine (walk a0 m0 cap0 _ _ _ _ hm0 hn0 st1 out1 pr1 pc1 wst1 wout1 wpr1 wpc1 a1 m1 cap1 _ _ _ _ hm1 hn1 W r0 r1).mono fun e W' ⟨he, bel⟩ => ?_
  subst he
  exact ⟨_, rfl, _, _, _, [], _, [], hW', trodAll_mk1 (shut_bool Try.underlying4 _), (trodAll_cons_mk (Below.trod laidOut (by kernel_rfl) (of_decide_eq_true (by kernel_rfl)) k0 bel lt0) (trodAll_cons_mk (Below.trod laidOut (by kernel_rfl) (of_decide_eq_true (by kernel_rfl)) k1 bel lt1) trodAll_mk0)), rfl, bel.frame _, fun h => by cases h⟩

set_option maxRecDepth 100000 in
theorem lifted (os : Os) (started : os.Started) (H : Type) (enc : TypeId × Value → H) :
    ReturnsInHanded {} Try.checked os 7 .any (Rows.fnExactRunDepthSpec.pre6 enc Try.prog Try.f7 Rows.fnExactRunDepthRow.domain false) (Rows.fnExactRunDepthSpec.post enc Try.prog Try.f7 false true false false) := by
  refine returnsInHanded_of_change (C := Try.checked) own started (by kernel_rfl) Try.func7
    (ChangeSpec.witness6 (enc := enc) (C := Try.checked) false ⟨#[], #[.agg #[.slice none 0 0], .agg #[.int .i64 0, .slice none 0 0, .int .i64 0, .int .i64 0, .int .i64 0]], []⟩ 8 (by kernel_rfl) (by kernel_rfl) (by kernel_rfl) (by kernel_rfl)) ?_
  intro W base args ds gs before hval hW _ _
  exact contract H enc W base args ds gs before hval hW

theorem proved : Rows.FnExactRunDepthSaid :=
  OpenClaim.holds_of_wide 7 Try.f7 rfl rfl rfl rfl rfl rfl rfl ⟨rfl, rfl, rfl, rfl, rfl⟩ rfl rfl rfl rfl rfl (by kernel_rfl) Try.func7 (by kernel_rfl)
    (of_decide_eq_true (by kernel_rfl)) (by unfold Func.isWrapper; first | (rw [if_pos (by decide +kernel)]; kernel_rfl) | (rw [if_neg (by decide +kernel)]; exact ⟨rfl, rfl⟩))
    (fun os started H enc _ => lifted os started H enc)
#print axioms proved
end Go.Proofs.Ytndedplmcjfgeaa.fnExactRunDepth
