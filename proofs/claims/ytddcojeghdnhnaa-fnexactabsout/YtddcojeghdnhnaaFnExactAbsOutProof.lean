/- Whatever is handed in, the law FnExactAbsOut returns true: the program's AbsOut answers as the model's, and turns nothing of its arguments. No condition. Of what has more than 1048576 entries the law itself answers true. -/
import Derived.Test.YtddcojeghdnhnaaOpenAbs
import Derived.Test.YtddcojeghdnhnaaExLaw
import Derived.Test.YtddcojeghdnhnaaAbsOut
import Derived.Test.YtddcojeghdnhnaaAbsX
import Derived.Deep.RegionHeld3
import Derived.Deep.DeepCutAuto
import Derived.WalkKit
import Derived.ProofKit
import Derived.OpenShut
import Derived.ShutString
import Derived.ChangeOld
import Derived.Below
namespace Go.Proofs.Ytddcojeghdnhnaa.fnExactAbsOut
open Go.ChangeShapes Go.WideShapes Go.ChangeAt Go.RowKit
open Go.ChangeMaps (open_string shut_string)
set_option linter.unusedVariables false

theorem own : ownKnob Try.prog.godebug = none := by kernel_rfl
theorem laidOut : laidOutB Try.prog = true := by kernel_rfl


set_option maxRecDepth 10000 in
set_option maxHeartbeats 40000000 in
theorem walk (z0_0 z1_0 z2_0 z3_0 z4_0 z5_0 z6_0 z7_0 : Int) (w0_0 : (Lit.int .i64 z0_0).wf = true) (w1_0 : (Lit.int .i64 z1_0).wf = true) (w2_0 : (Lit.int .i64 z2_0).wf = true) (w3_0 : (Lit.int .i64 z3_0).wf = true) (w4_0 : (Lit.int .i64 z4_0).wf = true) (w5_0 : (Lit.int .i64 z5_0).wf = true) (w6_0 : (Lit.int .i64 z6_0).wf = true) (w7_0 : (Lit.int .i64 z7_0).wf = true) (on1 : Bool) (x1 y1 : Int) (a1 : Option Addr) (b1 off1 n1 cap1 : Nat) (lo1 hi1 : Nat → Int) (hn1 : n1 ≤ maxLen) (w : World) (r1 : BndsAt a1 b1 off1 n1 lo1 hi1 w) :
    Calls Try.prog 8 #[.agg #[.int .i64 z0_0, .int .i64 z1_0, .int .i64 z2_0, .int .i64 z3_0, .int .i64 z4_0, .int .i64 z5_0, .int .i64 z6_0, .int .i64 z7_0], .agg #[.bool on1, .slice a1 n1 cap1, .int .i64 x1, .int .i64 y1]] w fun e w' => e = .returned (.bool true) ∧ Below w.heap.size w w' := by
  have H : HeldL w [(w.heap.size + 1, [Value.bool on1, .slice a1 n1 cap1, .int .i64 x1, .int .i64 y1]), (w.heap.size, [Value.int .i64 z0_0, .int .i64 z1_0, .int .i64 z2_0, .int .i64 z3_0, .int .i64 z4_0, .int .i64 z5_0, .int .i64 z6_0, .int .i64 z7_0])] ((w.alloc (.cells #[.int .i64 z0_0, .int .i64 z1_0, .int .i64 z2_0, .int .i64 z3_0, .int .i64 z4_0, .int .i64 z5_0, .int .i64 z6_0, .int .i64 z7_0] 57)).alloc (.cells #[.bool on1, .slice a1 n1 cap1, .int .i64 x1, .int .i64 y1] 26)) := by
    have e1 : w.heap.size + 1 = (w.alloc (.cells #[.int .i64 z0_0, .int .i64 z1_0, .int .i64 z2_0, .int .i64 z3_0, .int .i64 z4_0, .int .i64 z5_0, .int .i64 z6_0, .int .i64 z7_0] 57)).heap.size := by simp
    rw [e1]
    exact HeldL.newL (vs := [Value.bool on1, .slice a1 n1 cap1, .int .i64 x1, .int .i64 y1]) (HeldL.newL (vs := [Value.int .i64 z0_0, .int .i64 z1_0, .int .i64 z2_0, .int .i64 z3_0, .int .i64 z4_0, .int .i64 z5_0, .int .i64 z6_0, .int .i64 z7_0]) (HeldL.nil w))
  obtain ⟨Lb, hLb⟩ : ∃ L, L = [(w.heap.size + 1, [Value.bool on1, .slice a1 n1 cap1, .int .i64 x1, .int .i64 y1]), (w.heap.size, [Value.int .i64 z0_0, .int .i64 z1_0, .int .i64 z2_0, .int .i64 z3_0, .int .i64 z4_0, .int .i64 z5_0, .int .i64 z6_0, .int .i64 z7_0])] := ⟨_, rfl⟩
  have m0 : (w.heap.size, [Value.int .i64 z0_0, .int .i64 z1_0, .int .i64 z2_0, .int .i64 z3_0, .int .i64 z4_0, .int .i64 z5_0, .int .i64 z6_0, .int .i64 z7_0]) ∈ Lb := by rw [hLb]; simp
  have m1 : (w.heap.size + 1, [Value.bool on1, .slice a1 n1 cap1, .int .i64 x1, .int .i64 y1]) ∈ Lb := by rw [hLb]; simp
  rw [← hLb] at H
  clear hLb
  go_enter Try.func8, Try.ntmps8
  go_wp2_with fail
  refine (szAbs _ _ _ _ _ _ 1048576 _ (by omega) hn1).mono ?_
  rintro e w1 ⟨u1, rfl, hu, hb⟩
  replace H := H.next hb
  clear hb
  rcases hu with rfl | hu
  · go_wp2_with fail
    go_ret
    exact ⟨rfl, H.below⟩
  have hs1 : n1 ≤ 1048576 := by omega
  have hl1 : 0 ≤ u1 ∧ u1 ≤ 1048576 := by omega
  have hg1 : ¬ u1 < 0 := by omega
  clear hu
  obtain ⟨so, hd0'⟩ : ∃ d, outB z0_0 z2_0 on1 n1 lo1 hi1 x1 y1 = d := ⟨_, rfl⟩
  have hd0 : Hid (outB z0_0 z2_0 on1 n1 lo1 hi1 x1 y1 = so) := hd0'
  clear hd0'
  obtain ⟨sl, hd1'⟩ : ∃ d, outLo z0_0 z2_0 on1 n1 lo1 hi1 x1 y1 = d := ⟨_, rfl⟩
  have hd1 : Hid (outLo z0_0 z2_0 on1 n1 lo1 hi1 x1 y1 = sl) := hd1'
  clear hd1'
  obtain ⟨sh, hd2'⟩ : ∃ d, outHi z0_0 z2_0 on1 n1 lo1 hi1 x1 y1 = d := ⟨_, rfl⟩
  have hd2 : Hid (outHi z0_0 z2_0 on1 n1 lo1 hi1 x1 y1 = sh) := hd2'
  clear hd2'
  have hS0 : HX w w1 Lb w1.drew := ⟨HeldL.drew H, (Below.refl _ w1).drew⟩
  have hN1 : ∀ e ∈ Lb, e.1 < w1.heap.size := fun e he => HeldL.size H he
  have hN2 : w.heap.size ≤ w1.heap.size := H.below.size
  clear H
  go_wp2_with fail
  refine region_inv4 [(0, 14), (1, 15), (2, 16), (3, 17), (4, 18), (5, 6)]
    (fun j vx => match j with
      | 0 => Is (.agg #[.int .i64 z0_0, .int .i64 z1_0, .int .i64 z2_0, .int .i64 z3_0, .int .i64 z4_0, .int .i64 z5_0, .int .i64 z6_0, .int .i64 z7_0]) vx
      | 1 => Is (.agg #[.int .i64 z0_0, .int .i64 z1_0, .int .i64 z2_0, .int .i64 z3_0, .int .i64 z4_0, .int .i64 z5_0, .int .i64 z6_0, .int .i64 z7_0]) vx
      | 2 => Is (.agg #[.bool on1, .slice a1 n1 cap1, .int .i64 x1, .int .i64 y1]) vx
      | 4 => Is (.agg #[.bool so, .int .i64 sl, .int .i64 sh]) vx
      | _ => True)
    (fun L vals W => HX w w1 Lb W ∧ NewL w1.heap.size [Value.bool so, .int .i64 sl, .int .i64 sh] 5 6 L vals W ∧ Cp 3 4 (AbsV on1 n1 lo1 hi1 x1 y1) L vals W)
    (by kernel_rfl) (by kernel_rfl) (by kernel_rfl) (by kernel_rfl) (by kernel_rfl) rfl (fun _ => ⟨hS0, NewL.start (Nat.le_refl _), Cp.start⟩) ?_ ?_
  · intro i L vals W hi' hφ hSS hL hd
    have hi2 : i < 7 := hi'
    obtain ⟨hS, hB, hC3⟩ := hSS
    clear hi' hS0
    rcases (show i = 0 ∨ i = 1 ∨ i = 2 ∨ i = 3 ∨ i = 4 ∨ i = 5 ∨ i = 6 by omega) with rfl | rfl | rfl | rfl | rfl | rfl | rfl
    · have c0 := hS.cell m0 (i := 0) rfl
      have c1 := hS.cell m0 (i := 1) rfl
      have c2 := hS.cell m0 (i := 2) rfl
      have c3 := hS.cell m0 (i := 3) rfl
      have c4 := hS.cell m0 (i := 4) rfl
      have c5 := hS.cell m0 (i := 5) rfl
      have c6 := hS.cell m0 (i := 6) rfl
      have c7 := hS.cell m0 (i := 7) rfl
      dsimp only at c0 c1 c2 c3 c4 c5 c6 c7
      refine wpAt_of rfl rfl ?_
      simp only [frOf, Act.put]
      go_wp2_with fail
      first | exact ⟨trivial, trivial, rfl, hS, hB.pure (by decide) (by decide), hC3.keep (fun _ h => h) (by decide) (by decide)⟩ | exact ⟨trivial, rfl, hS, hB.pure (by decide) (by decide), hC3.keep (fun _ h => h) (by decide) (by decide)⟩ | exact ⟨rfl, hS, hB.pure (by decide) (by decide), hC3.keep (fun _ h => h) (by decide) (by decide)⟩
    · have k0 : vals 0 = .agg #[.int .i64 z0_0, .int .i64 z1_0, .int .i64 z2_0, .int .i64 z3_0, .int .i64 z4_0, .int .i64 z5_0, .int .i64 z6_0, .int .i64 z7_0] := hφ 0 (hd 0 (by decide))
      refine wpAt_of rfl rfl ?_
      simp only [frOf, Act.put]
      go_wp2_with fail
      refine (toIns _ _ _ _ _ _ _ _ _).mono ?_
      rintro e W' ⟨rfl, hb⟩
      go_wp2_with fail
      first | exact ⟨trivial, trivial, rfl, HX.next hb hS, hB.next hb (by decide) (by decide), hC3.keep (fun _ h => h.next hb) (by decide) (by decide)⟩ | exact ⟨trivial, rfl, HX.next hb hS, hB.next hb (by decide) (by decide), hC3.keep (fun _ h => h.next hb) (by decide) (by decide)⟩ | exact ⟨rfl, HX.next hb hS, hB.next hb (by decide) (by decide), hC3.keep (fun _ h => h.next hb) (by decide) (by decide)⟩
    · have c0 := hS.cell m1 (i := 0) rfl
      have c1 := hS.cell m1 (i := 1) rfl
      have c2 := hS.cell m1 (i := 2) rfl
      have c3 := hS.cell m1 (i := 3) rfl
      dsimp only at c0 c1 c2 c3
      refine wpAt_of rfl rfl ?_
      simp only [frOf, Act.put]
      go_wp2_with fail
      first | exact ⟨trivial, trivial, rfl, hS, hB.pure (by decide) (by decide), hC3.keep (fun _ h => h) (by decide) (by decide)⟩ | exact ⟨trivial, rfl, hS, hB.pure (by decide) (by decide), hC3.keep (fun _ h => h) (by decide) (by decide)⟩ | exact ⟨rfl, hS, hB.pure (by decide) (by decide), hC3.keep (fun _ h => h) (by decide) (by decide)⟩
    · have k2 : vals 2 = .agg #[.bool on1, .slice a1 n1 cap1, .int .i64 x1, .int .i64 y1] := hφ 2 (hd 2 (by decide))
      refine wpAt_of rfl rfl ?_
      simp only [frOf, Act.put]
      go_wp2_with fail
      refine (toAbs _ _ _ _ _ _ _ _ _ _ _ hs1 (r1.next (HX.below hS))).mono ?_
      rintro e W' ⟨gN, rfl, _, lgN, pgN, _, hb⟩
      go_wp2_with fail
      first | exact ⟨trivial, trivial, HX.next hb hS, hB.next hb (by decide) (by decide), Cp.put ⟨_, rfl, lgN, pgN⟩⟩ | exact ⟨trivial, HX.next hb hS, hB.next hb (by decide) (by decide), Cp.put ⟨_, rfl, lgN, pgN⟩⟩ | exact ⟨HX.next hb hS, hB.next hb (by decide) (by decide), Cp.put ⟨_, rfl, lgN, pgN⟩⟩
    · have k1 : vals 1 = .agg #[.int .i64 z0_0, .int .i64 z1_0, .int .i64 z2_0, .int .i64 z3_0, .int .i64 z4_0, .int .i64 z5_0, .int .i64 z6_0, .int .i64 z7_0] := hφ 1 (hd 1 (by decide))
      obtain ⟨g3, k3, l3, q3⟩ : AbsV on1 n1 lo1 hi1 x1 y1 (vals 3) W := hC3 (hd 3 (by decide)) hL
      refine wpAt_of rfl rfl ?_
      simp only [frOf, Act.put]
      go_wp2_with fail
      refine (absOutS _ _ _ _ _ _ _ _ _ _ _ _ _ _ _ _ _ _ _ q3).mono ?_
      rintro e W' ⟨rfl, hb⟩
      rw [hd0.out, hd1.out, hd2.out]
      go_wp2_with fail
      first | exact ⟨trivial, trivial, rfl, HX.next hb hS, hB.next hb (by decide) (by decide), Cp.done⟩ | exact ⟨trivial, rfl, HX.next hb hS, hB.next hb (by decide) (by decide), Cp.done⟩ | exact ⟨rfl, HX.next hb hS, hB.next hb (by decide) (by decide), Cp.done⟩
    · refine wpAt_of rfl rfl ?_
      simp only [frOf, Act.put]
      go_wp2_with fail
      first | exact ⟨trivial, trivial, HX.alloc _ hS, hB.made hL (by decide) rfl, hC3.keep (fun _ h => h.next ((Below.refl _ _).alloc (Nat.le_refl _) _)) (by decide) (by decide)⟩ | exact ⟨trivial, HX.alloc _ hS, hB.made hL (by decide) rfl, hC3.keep (fun _ h => h.next ((Below.refl _ _).alloc (Nat.le_refl _) _)) (by decide) (by decide)⟩ | exact ⟨HX.alloc _ hS, hB.made hL (by decide) rfl, hC3.keep (fun _ h => h.next ((Below.refl _ _).alloc (Nat.le_refl _) _)) (by decide) (by decide)⟩
    · have k4 : vals 4 = .agg #[.bool so, .int .i64 sl, .int .i64 sh] := hφ 4 (hd 4 (by decide))
      have hLp := hd 5 (by decide)
      obtain ⟨b, kb, hb1, hb2, hbf, hcc, _⟩ := hB.2.2 hLp
      obtain ⟨u0, c0⟩ := hcc 0 (by simp)
      obtain ⟨u1, c1⟩ := hcc 1 (by simp)
      obtain ⟨u2, c2⟩ := hcc 2 (by simp)
      clear hcc
      refine wpAt_none rfl rfl ?_
      simp only [frOf, Act.put]
      go_wp2_with fail
      first | exact ⟨trivial, trivial, HX.setAll hN1 hN2 (Nat.le_refl _) hb1 [Value.bool so, .int .i64 sl, .int .i64 sh] 0 hS, hB.set hLp kb (by decide), Cp.past (hd 4 (by decide)) (by decide)⟩ | exact ⟨trivial, HX.setAll hN1 hN2 (Nat.le_refl _) hb1 [Value.bool so, .int .i64 sl, .int .i64 sh] 0 hS, hB.set hLp kb (by decide), Cp.past (hd 4 (by decide)) (by decide)⟩ | exact ⟨HX.setAll hN1 hN2 (Nat.le_refl _) hb1 [Value.bool so, .int .i64 sl, .int .i64 sh] 0 hS, hB.set hLp kb (by decide), Cp.past (hd 4 (by decide)) (by decide)⟩
  · intro L vals v2 hall hφ hSS
    obtain ⟨hS, hB, hC3⟩ := hSS
    have k0 : vals 0 = .agg #[.int .i64 z0_0, .int .i64 z1_0, .int .i64 z2_0, .int .i64 z3_0, .int .i64 z4_0, .int .i64 z5_0, .int .i64 z6_0, .int .i64 z7_0] := hφ 0 (by decide)
    have k1 : vals 1 = .agg #[.int .i64 z0_0, .int .i64 z1_0, .int .i64 z2_0, .int .i64 z3_0, .int .i64 z4_0, .int .i64 z5_0, .int .i64 z6_0, .int .i64 z7_0] := hφ 1 (by decide)
    have k2 : vals 2 = .agg #[.bool on1, .slice a1 n1 cap1, .int .i64 x1, .int .i64 y1] := hφ 2 (by decide)
    have k4 : vals 4 = .agg #[.bool so, .int .i64 sl, .int .i64 sh] := hφ 4 (by decide)
    obtain ⟨B2, k5, hb1, hb2, hbf, _, hc⟩ := hB.2.2 (hall 5 (by decide))
    have hcs := hc (hall 6 (by decide))
    simp only [frOf, Act.put, List.setIfInBounds_toArray, List.set_cons_succ, List.set_cons_zero, k0, k1, k2, k4, k5]
    clear k0 k1 k2 k4 k5 hB hc hall hφ hS0 hC3
    have H := HeldL.withNewL hS.1 (Nat.le_trans hN2 hb1) hb2 hbf hcs
    clear hS hb1 hb2 hbf hcs hN1 hN2
    obtain ⟨L2, hL⟩ : ∃ L, L = (B2, [Value.bool so, .int .i64 sl, .int .i64 sh]) :: Lb := ⟨_, rfl⟩
    rw [← hL] at H
    have mX2 : (B2, [Value.bool so, .int .i64 sl, .int .i64 sh]) ∈ L2 := by rw [hL]; simp
    replace m0 := List.mem_cons_of_mem (B2, [Value.bool so, .int .i64 sl, .int .i64 sh]) m0
    rw [← hL] at m0
    replace m1 := List.mem_cons_of_mem (B2, [Value.bool so, .int .i64 sl, .int .i64 sh]) m1
    rw [← hL] at m1
    clear hL
    have c0 := H.cell m1 (i := 0) rfl
    have c1 := H.cell m1 (i := 1) rfl
    have c2 := H.cell m1 (i := 2) rfl
    have c3 := H.cell m1 (i := 3) rfl
    dsimp only at c0 c1 c2 c3
    go_wp2_with fail
    refine (toAbs _ _ _ _ _ _ _ _ _ _ _ hs1 (r1.next (HeldL.below H))).mono ?_
    rintro e w3 ⟨X3, rfl, _, lX3, pX3, _, hb⟩
    have ka : Below w3.heap.size w3 (w3.alloc (.cells #[.bool on1, .slice (some ⟨X3, 0, none⟩) n1 n1, .int .i64 x1, .int .i64 y1] 32)) := (Below.refl _ _).alloc (Nat.le_refl _) _
    replace H := HeldL.newL (vs := [Value.bool on1, .slice (some ⟨X3, 0, none⟩) n1 n1, .int .i64 x1, .int .i64 y1]) (t := 32) (HeldL.next hb H)
    replace hb := below_tr hb ka
    replace pX3 := pX3.next ka
    replace lX3 := Nat.lt_of_lt_of_le lX3 (Below.size ka)
    clear c0 c1 c2 c3
    clear hb ka
    obtain ⟨B3, hX⟩ : ∃ X, X = w3.heap.size := ⟨_, rfl⟩
    rw [← hX] at H
    have hXS3 : Hid (B3 = w3.heap.size) := hX
    clear hX
    obtain ⟨L3, hL⟩ : ∃ L, L = (B3, [Value.bool on1, .slice (some ⟨X3, 0, none⟩) n1 n1, .int .i64 x1, .int .i64 y1]) :: L2 := ⟨_, rfl⟩
    rw [← hL] at H
    have mX3 : (B3, [Value.bool on1, .slice (some ⟨X3, 0, none⟩) n1 n1, .int .i64 x1, .int .i64 y1]) ∈ L3 := by rw [hL]; simp
    replace m0 := List.mem_cons_of_mem (B3, [Value.bool on1, .slice (some ⟨X3, 0, none⟩) n1 n1, .int .i64 x1, .int .i64 y1]) m0
    rw [← hL] at m0
    replace m1 := List.mem_cons_of_mem (B3, [Value.bool on1, .slice (some ⟨X3, 0, none⟩) n1 n1, .int .i64 x1, .int .i64 y1]) m1
    rw [← hL] at m1
    replace mX2 := List.mem_cons_of_mem (B3, [Value.bool on1, .slice (some ⟨X3, 0, none⟩) n1 n1, .int .i64 x1, .int .i64 y1]) mX2
    rw [← hL] at mX2
    clear hL
    have hS0 : HX w (w3.alloc (.cells #[.bool on1, .slice (some ⟨X3, 0, none⟩) n1 n1, .int .i64 x1, .int .i64 y1] 32)) L3 (w3.alloc (.cells #[.bool on1, .slice (some ⟨X3, 0, none⟩) n1 n1, .int .i64 x1, .int .i64 y1] 32)).drew := ⟨HeldL.drew H, (Below.refl _ (w3.alloc (.cells #[.bool on1, .slice (some ⟨X3, 0, none⟩) n1 n1, .int .i64 x1, .int .i64 y1] 32))).drew⟩
    have hN1 : ∀ e ∈ L3, e.1 < (w3.alloc (.cells #[.bool on1, .slice (some ⟨X3, 0, none⟩) n1 n1, .int .i64 x1, .int .i64 y1] 32)).heap.size := fun e he => HeldL.size H he
    have hN2 : w.heap.size ≤ (w3.alloc (.cells #[.bool on1, .slice (some ⟨X3, 0, none⟩) n1 n1, .int .i64 x1, .int .i64 y1] 32)).heap.size := H.below.size
    clear H
    go_wp2_with fail
    rw [← hXS3.out]
    clear hXS3
    refine region_inv4 [(0, 21), (1, 22), (2, 23), (3, 24), (4, 8)]
      (fun j vx => match j with
        | 0 => Is (.agg #[.int .i64 z0_0, .int .i64 z1_0, .int .i64 z2_0, .int .i64 z3_0, .int .i64 z4_0, .int .i64 z5_0, .int .i64 z6_0, .int .i64 z7_0]) vx
        | 1 => Is (.agg #[.int .i64 z0_0, .int .i64 z1_0, .int .i64 z2_0, .int .i64 z3_0, .int .i64 z4_0, .int .i64 z5_0, .int .i64 z6_0, .int .i64 z7_0]) vx
        | 2 => Is (.agg #[.bool on1, .slice (some ⟨X3, 0, none⟩) n1 n1, .int .i64 x1, .int .i64 y1]) vx
        | 3 => Is (.agg #[.bool so, .int .i64 sl, .int .i64 sh]) vx
        | _ => True)
      (fun L vals W => HX w (w3.alloc (.cells #[.bool on1, .slice (some ⟨X3, 0, none⟩) n1 n1, .int .i64 x1, .int .i64 y1] 32)) L3 W ∧ NewL (w3.alloc (.cells #[.bool on1, .slice (some ⟨X3, 0, none⟩) n1 n1, .int .i64 x1, .int .i64 y1] 32)).heap.size [Value.bool so, .int .i64 sl, .int .i64 sh] 4 5 L vals W)
      (by kernel_rfl) (by kernel_rfl) (by kernel_rfl) (by kernel_rfl) (by kernel_rfl) rfl (fun _ => ⟨hS0, NewL.start (Nat.le_refl _)⟩) ?_ ?_
    · intro i L vals W hi' hφ hSS hL hd
      have hi2 : i < 6 := hi'
      obtain ⟨hS, hB⟩ := hSS
      clear hi' hS0
      rcases (show i = 0 ∨ i = 1 ∨ i = 2 ∨ i = 3 ∨ i = 4 ∨ i = 5 by omega) with rfl | rfl | rfl | rfl | rfl | rfl
      · have c0 := hS.cell m0 (i := 0) rfl
        have c1 := hS.cell m0 (i := 1) rfl
        have c2 := hS.cell m0 (i := 2) rfl
        have c3 := hS.cell m0 (i := 3) rfl
        have c4 := hS.cell m0 (i := 4) rfl
        have c5 := hS.cell m0 (i := 5) rfl
        have c6 := hS.cell m0 (i := 6) rfl
        have c7 := hS.cell m0 (i := 7) rfl
        dsimp only at c0 c1 c2 c3 c4 c5 c6 c7
        refine wpAt_of rfl rfl ?_
        simp only [frOf, Act.put]
        go_wp2_with fail
        first | exact ⟨trivial, trivial, rfl, hS, hB.pure (by decide) (by decide)⟩ | exact ⟨trivial, rfl, hS, hB.pure (by decide) (by decide)⟩ | exact ⟨rfl, hS, hB.pure (by decide) (by decide)⟩
      · have k0 : vals 0 = .agg #[.int .i64 z0_0, .int .i64 z1_0, .int .i64 z2_0, .int .i64 z3_0, .int .i64 z4_0, .int .i64 z5_0, .int .i64 z6_0, .int .i64 z7_0] := hφ 0 (hd 0 (by decide))
        refine wpAt_of rfl rfl ?_
        simp only [frOf, Act.put]
        go_wp2_with fail
        refine (toIns _ _ _ _ _ _ _ _ _).mono ?_
        rintro e W' ⟨rfl, hb⟩
        go_wp2_with fail
        first | exact ⟨trivial, trivial, rfl, HX.next hb hS, hB.next hb (by decide) (by decide)⟩ | exact ⟨trivial, rfl, HX.next hb hS, hB.next hb (by decide) (by decide)⟩ | exact ⟨rfl, HX.next hb hS, hB.next hb (by decide) (by decide)⟩
      · have c0 := hS.cell mX3 (i := 0) rfl
        have c1 := hS.cell mX3 (i := 1) rfl
        have c2 := hS.cell mX3 (i := 2) rfl
        have c3 := hS.cell mX3 (i := 3) rfl
        dsimp only at c0 c1 c2 c3
        refine wpAt_of rfl rfl ?_
        simp only [frOf, Act.put]
        go_wp2_with fail
        first | exact ⟨trivial, trivial, rfl, hS, hB.pure (by decide) (by decide)⟩ | exact ⟨trivial, rfl, hS, hB.pure (by decide) (by decide)⟩ | exact ⟨rfl, hS, hB.pure (by decide) (by decide)⟩
      · have k1 : vals 1 = .agg #[.int .i64 z0_0, .int .i64 z1_0, .int .i64 z2_0, .int .i64 z3_0, .int .i64 z4_0, .int .i64 z5_0, .int .i64 z6_0, .int .i64 z7_0] := hφ 1 (hd 1 (by decide))
        have k2 : vals 2 = .agg #[.bool on1, .slice (some ⟨X3, 0, none⟩) n1 n1, .int .i64 x1, .int .i64 y1] := hφ 2 (hd 2 (by decide))
        refine wpAt_of rfl rfl ?_
        simp only [frOf, Act.put]
        go_wp2_with fail
        refine (absOutI _ _ _ _ _ _ _ _ _ _ _ _ _ _ _ _ _ _ _ hs1 (pX3.next (HX.beh hS))).mono ?_
        rintro e W' ⟨rfl, hb⟩
        rw [hd0.out, hd1.out, hd2.out]
        go_wp2_with fail
        first | exact ⟨trivial, trivial, rfl, HX.next hb hS, hB.next hb (by decide) (by decide)⟩ | exact ⟨trivial, rfl, HX.next hb hS, hB.next hb (by decide) (by decide)⟩ | exact ⟨rfl, HX.next hb hS, hB.next hb (by decide) (by decide)⟩
      · refine wpAt_of rfl rfl ?_
        simp only [frOf, Act.put]
        go_wp2_with fail
        first | exact ⟨trivial, trivial, HX.alloc _ hS, hB.made hL (by decide) rfl⟩ | exact ⟨trivial, HX.alloc _ hS, hB.made hL (by decide) rfl⟩ | exact ⟨HX.alloc _ hS, hB.made hL (by decide) rfl⟩
      · have k3 : vals 3 = .agg #[.bool so, .int .i64 sl, .int .i64 sh] := hφ 3 (hd 3 (by decide))
        have hLp := hd 4 (by decide)
        obtain ⟨b, kb, hb1, hb2, hbf, hcc, _⟩ := hB.2.2 hLp
        obtain ⟨u0, c0⟩ := hcc 0 (by simp)
        obtain ⟨u1, c1⟩ := hcc 1 (by simp)
        obtain ⟨u2, c2⟩ := hcc 2 (by simp)
        clear hcc
        refine wpAt_none rfl rfl ?_
        simp only [frOf, Act.put]
        go_wp2_with fail
        first | exact ⟨trivial, trivial, HX.setAll hN1 hN2 (Nat.le_refl _) hb1 [Value.bool so, .int .i64 sl, .int .i64 sh] 0 hS, hB.set hLp kb (by decide)⟩ | exact ⟨trivial, HX.setAll hN1 hN2 (Nat.le_refl _) hb1 [Value.bool so, .int .i64 sl, .int .i64 sh] 0 hS, hB.set hLp kb (by decide)⟩ | exact ⟨HX.setAll hN1 hN2 (Nat.le_refl _) hb1 [Value.bool so, .int .i64 sl, .int .i64 sh] 0 hS, hB.set hLp kb (by decide)⟩
    · intro L vals v4 hall hφ hSS
      obtain ⟨hS, hB⟩ := hSS
      have k0 : vals 0 = .agg #[.int .i64 z0_0, .int .i64 z1_0, .int .i64 z2_0, .int .i64 z3_0, .int .i64 z4_0, .int .i64 z5_0, .int .i64 z6_0, .int .i64 z7_0] := hφ 0 (by decide)
      have k1 : vals 1 = .agg #[.int .i64 z0_0, .int .i64 z1_0, .int .i64 z2_0, .int .i64 z3_0, .int .i64 z4_0, .int .i64 z5_0, .int .i64 z6_0, .int .i64 z7_0] := hφ 1 (by decide)
      have k2 : vals 2 = .agg #[.bool on1, .slice (some ⟨X3, 0, none⟩) n1 n1, .int .i64 x1, .int .i64 y1] := hφ 2 (by decide)
      have k3 : vals 3 = .agg #[.bool so, .int .i64 sl, .int .i64 sh] := hφ 3 (by decide)
      obtain ⟨B4, k4, hb1, hb2, hbf, _, hc⟩ := hB.2.2 (hall 4 (by decide))
      have hcs := hc (hall 5 (by decide))
      simp only [frOf, Act.put, List.setIfInBounds_toArray, List.set_cons_succ, List.set_cons_zero, k0, k1, k2, k3, k4]
      clear k0 k1 k2 k3 k4 hB hc hall hφ hS0
      have H := HeldL.withNewL hS.1 (Nat.le_trans hN2 hb1) hb2 hbf hcs
      replace pX3 := pX3.next hS.2
      replace lX3 := Nat.lt_of_lt_of_le lX3 (Below.size hS.2)
      clear hS hb1 hb2 hbf hcs hN1 hN2
      obtain ⟨L4, hL⟩ : ∃ L, L = (B4, [Value.bool so, .int .i64 sl, .int .i64 sh]) :: L3 := ⟨_, rfl⟩
      rw [← hL] at H
      have mX4 : (B4, [Value.bool so, .int .i64 sl, .int .i64 sh]) ∈ L4 := by rw [hL]; simp
      replace m0 := List.mem_cons_of_mem (B4, [Value.bool so, .int .i64 sl, .int .i64 sh]) m0
      rw [← hL] at m0
      replace m1 := List.mem_cons_of_mem (B4, [Value.bool so, .int .i64 sl, .int .i64 sh]) m1
      rw [← hL] at m1
      replace mX2 := List.mem_cons_of_mem (B4, [Value.bool so, .int .i64 sl, .int .i64 sh]) mX2
      rw [← hL] at mX2
      replace mX3 := List.mem_cons_of_mem (B4, [Value.bool so, .int .i64 sl, .int .i64 sh]) mX3
      rw [← hL] at mX3
      clear hL
      have c0 := H.cell mX4 (i := 0) rfl
      have c1 := H.cell mX4 (i := 1) rfl
      have c2 := H.cell mX4 (i := 2) rfl
      dsimp only at c0 c1 c2
      have d1_0 := H.cell mX2 (i := 0) rfl
      have d1_1 := H.cell mX2 (i := 1) rfl
      have d1_2 := H.cell mX2 (i := 2) rfl
      dsimp only at d1_0 d1_1 d1_2
      go_wp2_with fail
      refine (eqSum _ _ _ _).mono ?_
      rintro e w5 ⟨rfl, hb⟩
      replace H := H.next hb
      replace pX3 := pX3.next hb
      replace lX3 := Nat.lt_of_lt_of_le lX3 (Below.size hb)
      clear c0 c1 c2 d1_0 d1_1 d1_2
      clear hb
      have hS0 : HX w w5 L4 w5.drew := ⟨HeldL.drew H, (Below.refl _ w5).drew⟩
      clear H
      go_wp2_with fail
      refine region_inv3 [(0, 29), (1, 30), (2, 31), (3, 32), (4, 33)]
        (fun j v W => match j with
          | 0 => Is (.agg #[.bool on1, .slice (some ⟨X3, 0, none⟩) n1 n1, .int .i64 x1, .int .i64 y1]) v
          | 1 => Is (.agg #[.bool on1, .slice a1 n1 cap1, .int .i64 x1, .int .i64 y1]) v
          | 2 => AbsV on1 n1 lo1 hi1 x1 y1 v W
          | 3 => Is (.bool true) v
          | 4 => Is (.bool false) v
          | _ => True)
        (fun _ W => HX w w5 L4 W) TX
        (by kernel_rfl) (by kernel_rfl) (by kernel_rfl) (by kernel_rfl) (by kernel_rfl) rfl hS0 ?_ ?_ ?_
      · intro i j v W W' hji hφ hT
        match j, hji, hφ with
        | 0, _, hφ => exact hφ
        | 1, _, hφ => exact hφ
        | 2, _, hφ => exact hφ.next hT
        | 3, _, hφ => exact hφ
        | 4, _, hφ => exact hφ
        | _ + 5, _, _ => trivial
      · intro i L vals W hi' hφ hS hL hd
        have hi2 : i < 5 := hi'
        clear hi'
        rcases (show i = 0 ∨ i = 1 ∨ i = 2 ∨ i = 3 ∨ i = 4 by omega) with rfl | rfl | rfl | rfl | rfl
        · have c0 := hS.cell mX3 (i := 0) rfl
          have c1 := hS.cell mX3 (i := 1) rfl
          have c2 := hS.cell mX3 (i := 2) rfl
          have c3 := hS.cell mX3 (i := 3) rfl
          dsimp only at c0 c1 c2 c3
          refine wpAt_of rfl rfl ?_
          simp only [frOf, Act.put]
          go_wp2_with fail
          first | exact ⟨trivial, rfl, Below.refl _ _, hS⟩ | exact ⟨rfl, Below.refl _ _, hS⟩
        · have c0 := hS.cell m1 (i := 0) rfl
          have c1 := hS.cell m1 (i := 1) rfl
          have c2 := hS.cell m1 (i := 2) rfl
          have c3 := hS.cell m1 (i := 3) rfl
          dsimp only at c0 c1 c2 c3
          refine wpAt_of rfl rfl ?_
          simp only [frOf, Act.put]
          go_wp2_with fail
          first | exact ⟨trivial, rfl, Below.refl _ _, hS⟩ | exact ⟨rfl, Below.refl _ _, hS⟩
        · have k1 : vals 1 = .agg #[.bool on1, .slice a1 n1 cap1, .int .i64 x1, .int .i64 y1] := hφ 1 (hd 1 (by decide))
          refine wpAt_of rfl rfl ?_
          simp only [frOf, Act.put]
          go_wp2_with fail
          refine (toAbs _ _ _ _ _ _ _ _ _ _ _ hs1 (r1.next (HX.below hS))).mono ?_
          rintro e W' ⟨gN, rfl, _, lgN, pgN, _, hb⟩
          go_wp2_with fail
          first | exact ⟨trivial, ⟨_, rfl, lgN, pgN⟩, hb, HX.next hb hS⟩ | exact ⟨⟨_, rfl, lgN, pgN⟩, hb, HX.next hb hS⟩
        · have k0 : vals 0 = .agg #[.bool on1, .slice (some ⟨X3, 0, none⟩) n1 n1, .int .i64 x1, .int .i64 y1] := hφ 0 (hd 0 (by decide))
          obtain ⟨g2, k2, l2, q2⟩ : AbsV on1 n1 lo1 hi1 x1 y1 (vals 2) W := hφ 2 (hd 2 (by decide))
          refine wpAt_of rfl rfl ?_
          simp only [frOf, Act.put]
          go_wp2_with fail
          refine (eqAbs _ _ _ _ _ _ _ _ _ hs1 (pX3.next (HX.beh hS)) q2).mono ?_
          rintro e W' ⟨rfl, hb⟩
          go_wp2_with fail
          first | exact ⟨trivial, rfl, hb, HX.next hb hS⟩ | exact ⟨rfl, hb, HX.next hb hS⟩
        · have k3 : vals 3 = .bool true := hφ 3 (hd 3 (by decide))
          refine wpAt_of rfl rfl ?_
          simp only [frOf, Act.put]
          go_wp2_with fail
          first | exact ⟨trivial, rfl, Below.refl _ _, hS⟩ | exact ⟨rfl, Below.refl _ _, hS⟩
      · intro L vals v6 hall hφ hS
        have k0 : vals 0 = .agg #[.bool on1, .slice (some ⟨X3, 0, none⟩) n1 n1, .int .i64 x1, .int .i64 y1] := hφ 0 (by decide)
        have k1 : vals 1 = .agg #[.bool on1, .slice a1 n1 cap1, .int .i64 x1, .int .i64 y1] := hφ 1 (by decide)
        have k3 : vals 3 = .bool true := hφ 3 (by decide)
        have k4 : vals 4 = .bool false := hφ 4 (by decide)
        simp only [frOf, Act.put, List.setIfInBounds_toArray, List.set_cons_succ, List.set_cons_zero, k0, k1, k3, k4]
        clear k0 k1 k3 k4 hall hφ hS0
        have H := hS.1
        replace pX3 := pX3.next hS.2
        replace lX3 := Nat.lt_of_lt_of_le lX3 (Below.size hS.2)
        clear hS
        go_wp2_with fail
        go_ret
        exact ⟨rfl, H.below⟩

set_option maxRecDepth 100000 in
theorem contract (H : Type) (enc : TypeId × Value → H) (W : World) (base : Nat) (args : Array Value) (ds gs : List (DataW H)) (before : List MemPlace)
    (hval : ∀ (j : Nat) t v, Try.f8.params[j]? = some t → args[j]? = some v → Value.okWide Try.prog W .any base t v)
    (hW : DataW.Whole enc Try.prog Try.f8.params.toList Rows.fnExactAbsOutSpec.vars false W args.toList ds gs before) :
    Calls Try.prog 8 args W fun e W' => ∃ v, e = .returned v ∧ Rows.fnExactAbsOutSpec.post enc Try.prog Try.f8 false true false false W args v W' := by
  have hW' := hW
  obtain ⟨p, q, hA0, hV, rfl, hfz, hnd⟩ := hW
  have hA : DataW.TrodAll enc Try.prog W 0 (fun _ => true) true Try.f8.params.toList args.toList ds p := hA0
  rw [Try.params8] at hA hval
  obtain ⟨v0, vs0, d0, ds0, p0, q0, hargs, rfl, rfl, h0, r0'⟩ := trodAll_cons hA
  obtain ⟨v1, vs1, d1, ds1, p1, q1, rfl, rfl, rfl, h1, r1'⟩ := trodAll_cons r0'
  obtain ⟨rfl, rfl, rfl⟩ := trodAll_nil r1'
  obtain rfl : args = #[v0, v1] := by cases args; simp_all
  obtain ⟨rfl, rfl⟩ := trodVars_none hV
  have k0 := h0
  obtain ⟨z0_0, z1_0, z2_0, z3_0, z4_0, z5_0, z6_0, z7_0, rfl, rfl, rfl, w0_0, w1_0, w2_0, w3_0, w4_0, w5_0, w6_0, w7_0⟩ := open_ins (hval 0 57 v0 rfl rfl) h0
  have k1 := h1
  have lt1 : ∀ x ∈ p1, x.block < W.heap.size := by obtain ⟨m, hm⟩ := k1; exact DataW.trod_lt m _ _ _ hm
  obtain ⟨on1, x1, y1, a1, n1, cap1, rfl, hn1, r1⟩ := open_abs (hval 1 26 v1 rfl rfl) h1
  clear hA0
  refine (walk z0_0 z1_0 z2_0 z3_0 z4_0 z5_0 z6_0 z7_0 w0_0 w1_0 w2_0 w3_0 w4_0 w5_0 w6_0 w7_0 on1 x1 y1 a1 _ _ n1 cap1 _ _ hn1 W r1).mono fun e W' ⟨he, bel⟩ => ?_
  subst he
  exact ⟨_, rfl, _, _, _, [], _, [], hW', trodAll_mk1 (shut_bool Try.underlying4 _), (trodAll_cons_mk (Below.trod laidOut (by kernel_rfl) (of_decide_eq_true (by kernel_rfl)) k0 bel (by simp)) (trodAll_cons_mk (Below.trod laidOut (by kernel_rfl) (of_decide_eq_true (by kernel_rfl)) k1 bel lt1) trodAll_mk0)), rfl, bel.frame _, fun h => by cases h⟩

set_option maxRecDepth 100000 in
theorem lifted (os : Os) (started : os.Started) (H : Type) (enc : TypeId × Value → H) :
    ReturnsInHanded {} Try.checked os 8 .any (Rows.fnExactAbsOutSpec.pre6 enc Try.prog Try.f8 Rows.fnExactAbsOutRow.domain false) (Rows.fnExactAbsOutSpec.post enc Try.prog Try.f8 false true false false) := by
  refine returnsInHanded_of_change (C := Try.checked) own started (by kernel_rfl) Try.func8
    (ChangeSpec.witness6 (enc := enc) (C := Try.checked) false ⟨#[], #[.agg #[.int .i64 0, .int .i64 0, .int .i64 0, .int .i64 0, .int .i64 0, .int .i64 0, .int .i64 0, .int .i64 0], .agg #[.bool false, .slice none 0 0, .int .i64 0, .int .i64 0]], []⟩ 8 (by kernel_rfl) (by kernel_rfl) (by kernel_rfl) (by kernel_rfl)) ?_
  intro W base args ds gs before hval hW _ _
  exact contract H enc W base args ds gs before hval hW

theorem proved : Rows.FnExactAbsOutSaid :=
  OpenClaim.holds_of_wide 8 Try.f8 rfl rfl rfl rfl rfl rfl rfl ⟨rfl, rfl, rfl, rfl, rfl⟩ rfl rfl rfl rfl rfl (by kernel_rfl) Try.func8 (by kernel_rfl)
    (of_decide_eq_true (by kernel_rfl)) (by unfold Func.isWrapper; first | (rw [if_pos (by decide +kernel)]; kernel_rfl) | (rw [if_neg (by decide +kernel)]; exact ⟨rfl, rfl⟩))
    (fun os started H enc _ => lifted os started H enc)
#print axioms proved
end Go.Proofs.Ytddcojeghdnhnaa.fnExactAbsOut
