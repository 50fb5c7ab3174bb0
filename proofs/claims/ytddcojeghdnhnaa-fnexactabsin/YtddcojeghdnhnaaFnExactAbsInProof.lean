/- Whatever is handed in, the law FnExactAbsIn returns true: the program's AbsIn answers as the model's, and turns nothing of its arguments. No condition. Of what has more than 1048576 entries the law itself answers true. -/
import Derived.Test.YtddcojeghdnhnaaOpenAbs
import Derived.Test.YtddcojeghdnhnaaExLaw
import Derived.Test.YtddcojeghdnhnaaAbsIn
import Derived.Test.YtddcojeghdnhnaaAbsX
import Derived.Deep.RegionHeld3
import Derived.Deep.DeepCutAuto
import Derived.WalkKit
import Derived.ProofKit
import Derived.OpenShut
import Derived.ShutString
import Derived.ChangeOld
import Derived.Below
namespace Go.Proofs.Ytddcojeghdnhnaa.fnExactAbsIn
open Go.ChangeShapes Go.WideShapes Go.ChangeAt Go.RowKit
open Go.ChangeMaps (open_string shut_string)
set_option linter.unusedVariables false

theorem own : ownKnob Try.prog.godebug = none := by kernel_rfl
theorem laidOut : laidOutB Try.prog = true := by kernel_rfl


set_option maxRecDepth 10000 in
set_option maxHeartbeats 40000000 in
theorem walk (on0 : Bool) (x0 y0 : Int) (a0 : Option Addr) (b0 off0 n0 cap0 : Nat) (lo0 hi0 : Nat → Int) (hn0 : n0 ≤ maxLen) (on1 : Bool) (x1 y1 : Int) (a1 : Option Addr) (b1 off1 n1 cap1 : Nat) (lo1 hi1 : Nat → Int) (hn1 : n1 ≤ maxLen) (w : World) (r0 : BndsAt a0 b0 off0 n0 lo0 hi0 w) (r1 : BndsAt a1 b1 off1 n1 lo1 hi1 w) :
    Calls Try.prog 5 #[.agg #[.bool on0, .slice a0 n0 cap0, .int .i64 x0, .int .i64 y0], .agg #[.bool on1, .slice a1 n1 cap1, .int .i64 x1, .int .i64 y1]] w fun e w' => e = .returned (.bool true) ∧ Below w.heap.size w w' := by
  have H : HeldL w [(w.heap.size + 1, [Value.bool on1, .slice a1 n1 cap1, .int .i64 x1, .int .i64 y1]), (w.heap.size, [Value.bool on0, .slice a0 n0 cap0, .int .i64 x0, .int .i64 y0])] ((w.alloc (.cells #[.bool on0, .slice a0 n0 cap0, .int .i64 x0, .int .i64 y0] 26)).alloc (.cells #[.bool on1, .slice a1 n1 cap1, .int .i64 x1, .int .i64 y1] 26)) := by
    have e1 : w.heap.size + 1 = (w.alloc (.cells #[.bool on0, .slice a0 n0 cap0, .int .i64 x0, .int .i64 y0] 26)).heap.size := by simp
    rw [e1]
    exact HeldL.newL (vs := [Value.bool on1, .slice a1 n1 cap1, .int .i64 x1, .int .i64 y1]) (HeldL.newL (vs := [Value.bool on0, .slice a0 n0 cap0, .int .i64 x0, .int .i64 y0]) (HeldL.nil w))
  obtain ⟨Lb, hLb⟩ : ∃ L, L = [(w.heap.size + 1, [Value.bool on1, .slice a1 n1 cap1, .int .i64 x1, .int .i64 y1]), (w.heap.size, [Value.bool on0, .slice a0 n0 cap0, .int .i64 x0, .int .i64 y0])] := ⟨_, rfl⟩
  have m0 : (w.heap.size, [Value.bool on0, .slice a0 n0 cap0, .int .i64 x0, .int .i64 y0]) ∈ Lb := by rw [hLb]; simp
  have m1 : (w.heap.size + 1, [Value.bool on1, .slice a1 n1 cap1, .int .i64 x1, .int .i64 y1]) ∈ Lb := by rw [hLb]; simp
  rw [← hLb] at H
  clear hLb
  go_enter Try.func5, Try.ntmps5
  go_wp2_with fail
  refine (szAbs _ _ _ _ _ _ 1048576 _ (by omega) hn0).mono ?_
  rintro e w1 ⟨u1, rfl, hu, hb⟩
  replace H := H.next hb
  clear hb
  rcases hu with rfl | hu
  · go_wp2_with fail
    go_ret
    exact ⟨rfl, H.below⟩
  have hs0 : n0 ≤ 1048576 := by omega
  have hl1 : 0 ≤ u1 ∧ u1 ≤ 1048576 := by omega
  have hg1 : ¬ u1 < 0 := by omega
  clear hu
  have c0 := H.cell m1 (i := 0) rfl
  have c1 := H.cell m1 (i := 1) rfl
  have c2 := H.cell m1 (i := 2) rfl
  have c3 := H.cell m1 (i := 3) rfl
  dsimp only at c0 c1 c2 c3
  go_wp2_with fail
  refine (szAbs _ _ _ _ _ _ u1 _ hl1 hn1).mono ?_
  rintro e w2 ⟨u2, rfl, hu, hb⟩
  replace H := H.next hb
  clear hb
  clear c0 c1 c2 c3
  rcases hu with rfl | hu
  · go_wp2_with fail
    go_ret
    exact ⟨rfl, H.below⟩
  have hs1 : n1 ≤ 1048576 := by omega
  have hl2 : 0 ≤ u2 ∧ u2 ≤ 1048576 := by omega
  have hg2 : ¬ u2 < 0 := by omega
  clear hu
  clear hl1 hg1
  obtain ⟨d, hd0'⟩ : ∃ d, absIn on0 n0 lo0 hi0 x0 y0 on1 n1 lo1 hi1 x1 y1 = d := ⟨_, rfl⟩
  have hd0 : Hid (absIn on0 n0 lo0 hi0 x0 y0 on1 n1 lo1 hi1 x1 y1 = d) := hd0'
  clear hd0'
  have hS0 : HX w w2 Lb w2.drew := ⟨HeldL.drew H, (Below.refl _ w2).drew⟩
  clear H
  go_wp2_with fail
  refine region_inv3 [(0, 20), (1, 21), (2, 22), (3, 23), (4, 24), (5, 6)]
    (fun j v W => match j with
      | 0 => Is (.agg #[.bool on0, .slice a0 n0 cap0, .int .i64 x0, .int .i64 y0]) v
      | 1 => AbsV on0 n0 lo0 hi0 x0 y0 v W
      | 2 => Is (.agg #[.bool on1, .slice a1 n1 cap1, .int .i64 x1, .int .i64 y1]) v
      | 3 => AbsV on1 n1 lo1 hi1 x1 y1 v W
      | 4 => Is (.bool d) v
      | 5 => Is (.bool d) v
      | _ => True)
    (fun _ W => HX w w2 Lb W) TX
    (by kernel_rfl) (by kernel_rfl) (by kernel_rfl) (by kernel_rfl) (by kernel_rfl) rfl hS0 ?_ ?_ ?_
  · intro i j v W W' hji hφ hT
    match j, hji, hφ with
    | 0, _, hφ => exact hφ
    | 1, _, hφ => exact hφ.next hT
    | 2, _, hφ => exact hφ
    | 3, _, hφ => exact hφ.next hT
    | 4, _, hφ => exact hφ
    | 5, _, hφ => exact hφ
    | _ + 6, _, _ => trivial
  · intro i L vals W hi' hφ hS hL hd
    have hi2 : i < 6 := hi'
    clear hi'
    rcases (show i = 0 ∨ i = 1 ∨ i = 2 ∨ i = 3 ∨ i = 4 ∨ i = 5 by omega) with rfl | rfl | rfl | rfl | rfl | rfl
    · have c0 := hS.cell m0 (i := 0) rfl
      have c1 := hS.cell m0 (i := 1) rfl
      have c2 := hS.cell m0 (i := 2) rfl
      have c3 := hS.cell m0 (i := 3) rfl
      dsimp only at c0 c1 c2 c3
      refine wpAt_of rfl rfl ?_
      simp only [frOf, Act.put]
      go_wp2_with fail
      first | exact ⟨trivial, rfl, Below.refl _ _, hS⟩ | exact ⟨rfl, Below.refl _ _, hS⟩
    · have k0 : vals 0 = .agg #[.bool on0, .slice a0 n0 cap0, .int .i64 x0, .int .i64 y0] := hφ 0 (hd 0 (by decide))
      refine wpAt_of rfl rfl ?_
      simp only [frOf, Act.put]
      go_wp2_with fail
      refine (toAbs _ _ _ _ _ _ _ _ _ _ _ hs0 (r0.next (HX.below hS))).mono ?_
      rintro e W' ⟨gN, rfl, _, lgN, pgN, _, hb⟩
      go_wp2_with fail
      first | exact ⟨trivial, ⟨_, rfl, lgN, pgN⟩, hb, HX.next hb hS⟩ | exact ⟨⟨_, rfl, lgN, pgN⟩, hb, HX.next hb hS⟩
    · have c0 := hS.cell m1 (i := 0) rfl
      have c1 := hS.cell m1 (i := 1) rfl
      have c2 := hS.cell m1 (i := 2) rfl
      have c3 := hS.cell m1 (i := 3) rfl
      dsimp only at c0 c1 c2 c3
      refine wpAt_of rfl rfl ?_
      simp only [frOf, Act.put]
      go_wp2_with fail
      first | exact ⟨trivial, rfl, Below.refl _ _, hS⟩ | exact ⟨rfl, Below.refl _ _, hS⟩
    · have k2 : vals 2 = .agg #[.bool on1, .slice a1 n1 cap1, .int .i64 x1, .int .i64 y1] := hφ 2 (hd 2 (by decide))
      refine wpAt_of rfl rfl ?_
      simp only [frOf, Act.put]
      go_wp2_with fail
      refine (toAbs _ _ _ _ _ _ _ _ _ _ _ hs1 (r1.next (HX.below hS))).mono ?_
      rintro e W' ⟨gN, rfl, _, lgN, pgN, _, hb⟩
      go_wp2_with fail
      first | exact ⟨trivial, ⟨_, rfl, lgN, pgN⟩, hb, HX.next hb hS⟩ | exact ⟨⟨_, rfl, lgN, pgN⟩, hb, HX.next hb hS⟩
    · obtain ⟨g1, k1, l1, q1⟩ : AbsV on0 n0 lo0 hi0 x0 y0 (vals 1) W := hφ 1 (hd 1 (by decide))
      obtain ⟨g3, k3, l3, q3⟩ : AbsV on1 n1 lo1 hi1 x1 y1 (vals 3) W := hφ 3 (hd 3 (by decide))
      refine wpAt_of rfl rfl ?_
      simp only [frOf, Act.put]
      go_wp2_with fail
      refine (absInS _ _ _ _ _ _ _ _ _ _ _ _ _ _ _ _ _ _ _ _ _ q1 q3).mono ?_
      rintro e W' ⟨rfl, hb⟩
      rw [hd0.out]
      go_wp2_with fail
      first | exact ⟨trivial, rfl, hb, HX.next hb hS⟩ | exact ⟨rfl, hb, HX.next hb hS⟩
    · have k4 : vals 4 = .bool d := hφ 4 (hd 4 (by decide))
      refine wpAt_of rfl rfl ?_
      simp only [frOf, Act.put]
      go_wp2_with fail
      first | exact ⟨trivial, rfl, Below.refl _ _, hS⟩ | exact ⟨rfl, Below.refl _ _, hS⟩
  · intro L vals v3 hall hφ hS
    have k0 : vals 0 = .agg #[.bool on0, .slice a0 n0 cap0, .int .i64 x0, .int .i64 y0] := hφ 0 (by decide)
    have k2 : vals 2 = .agg #[.bool on1, .slice a1 n1 cap1, .int .i64 x1, .int .i64 y1] := hφ 2 (by decide)
    have k4 : vals 4 = .bool d := hφ 4 (by decide)
    have k5 : vals 5 = .bool d := hφ 5 (by decide)
    simp only [frOf, Act.put, List.setIfInBounds_toArray, List.set_cons_succ, List.set_cons_zero, k0, k2, k4, k5]
    clear k0 k2 k4 k5 hall hφ hS0
    have H := hS.1
    clear hS
    have c0 := H.cell m0 (i := 0) rfl
    have c1 := H.cell m0 (i := 1) rfl
    have c2 := H.cell m0 (i := 2) rfl
    have c3 := H.cell m0 (i := 3) rfl
    dsimp only at c0 c1 c2 c3
    go_wp2_with fail
    refine (toAbs _ _ _ _ _ _ _ _ _ _ _ hs0 (r0.next (HeldL.below H))).mono ?_
    rintro e w4 ⟨X4, rfl, _, lX4, pX4, _, hb⟩
    have ka : Below w4.heap.size w4 (w4.alloc (.cells #[.bool on0, .slice (some ⟨X4, 0, none⟩) n0 n0, .int .i64 x0, .int .i64 y0] 32)) := (Below.refl _ _).alloc (Nat.le_refl _) _
    replace H := HeldL.newL (vs := [Value.bool on0, .slice (some ⟨X4, 0, none⟩) n0 n0, .int .i64 x0, .int .i64 y0]) (t := 32) (HeldL.next hb H)
    replace hb := below_tr hb ka
    replace pX4 := pX4.next ka
    replace lX4 := Nat.lt_of_lt_of_le lX4 (Below.size ka)
    clear c0 c1 c2 c3
    clear hb ka
    obtain ⟨B4, hX⟩ : ∃ X, X = w4.heap.size := ⟨_, rfl⟩
    rw [← hX] at H
    have hXS4 : Hid (B4 = w4.heap.size) := hX
    clear hX
    obtain ⟨L4, hL⟩ : ∃ L, L = (B4, [Value.bool on0, .slice (some ⟨X4, 0, none⟩) n0 n0, .int .i64 x0, .int .i64 y0]) :: Lb := ⟨_, rfl⟩
    rw [← hL] at H
    have mX4 : (B4, [Value.bool on0, .slice (some ⟨X4, 0, none⟩) n0 n0, .int .i64 x0, .int .i64 y0]) ∈ L4 := by rw [hL]; simp
    replace m0 := List.mem_cons_of_mem (B4, [Value.bool on0, .slice (some ⟨X4, 0, none⟩) n0 n0, .int .i64 x0, .int .i64 y0]) m0
    rw [← hL] at m0
    replace m1 := List.mem_cons_of_mem (B4, [Value.bool on0, .slice (some ⟨X4, 0, none⟩) n0 n0, .int .i64 x0, .int .i64 y0]) m1
    rw [← hL] at m1
    clear hL
    have c0 := H.cell m1 (i := 0) rfl
    have c1 := H.cell m1 (i := 1) rfl
    have c2 := H.cell m1 (i := 2) rfl
    have c3 := H.cell m1 (i := 3) rfl
    dsimp only at c0 c1 c2 c3
    go_wp2_with fail
    rw [← hXS4.out]
    clear hXS4
    refine (toAbs _ _ _ _ _ _ _ _ _ _ _ hs1 (r1.next (HeldL.below H))).mono ?_
    rintro e w5 ⟨X5, rfl, _, lX5, pX5, _, hb⟩
    have ka : Below w5.heap.size w5 (w5.alloc (.cells #[.bool on1, .slice (some ⟨X5, 0, none⟩) n1 n1, .int .i64 x1, .int .i64 y1] 32)) := (Below.refl _ _).alloc (Nat.le_refl _) _
    replace H := HeldL.newL (vs := [Value.bool on1, .slice (some ⟨X5, 0, none⟩) n1 n1, .int .i64 x1, .int .i64 y1]) (t := 32) (HeldL.next hb H)
    replace hb := below_tr hb ka
    replace pX4 := pX4.next hb
    replace lX4 := Nat.lt_of_lt_of_le lX4 (Below.size hb)
    replace pX5 := pX5.next ka
    replace lX5 := Nat.lt_of_lt_of_le lX5 (Below.size ka)
    clear c0 c1 c2 c3
    clear hb ka
    obtain ⟨B5, hX⟩ : ∃ X, X = w5.heap.size := ⟨_, rfl⟩
    rw [← hX] at H
    have hXS5 : Hid (B5 = w5.heap.size) := hX
    clear hX
    obtain ⟨L5, hL⟩ : ∃ L, L = (B5, [Value.bool on1, .slice (some ⟨X5, 0, none⟩) n1 n1, .int .i64 x1, .int .i64 y1]) :: L4 := ⟨_, rfl⟩
    rw [← hL] at H
    have mX5 : (B5, [Value.bool on1, .slice (some ⟨X5, 0, none⟩) n1 n1, .int .i64 x1, .int .i64 y1]) ∈ L5 := by rw [hL]; simp
    replace m0 := List.mem_cons_of_mem (B5, [Value.bool on1, .slice (some ⟨X5, 0, none⟩) n1 n1, .int .i64 x1, .int .i64 y1]) m0
    rw [← hL] at m0
    replace m1 := List.mem_cons_of_mem (B5, [Value.bool on1, .slice (some ⟨X5, 0, none⟩) n1 n1, .int .i64 x1, .int .i64 y1]) m1
    rw [← hL] at m1
    replace mX4 := List.mem_cons_of_mem (B5, [Value.bool on1, .slice (some ⟨X5, 0, none⟩) n1 n1, .int .i64 x1, .int .i64 y1]) mX4
    rw [← hL] at mX4
    clear hL
    have c0 := H.cell mX4 (i := 0) rfl
    have c1 := H.cell mX4 (i := 1) rfl
    have c2 := H.cell mX4 (i := 2) rfl
    have c3 := H.cell mX4 (i := 3) rfl
    dsimp only at c0 c1 c2 c3
    have d1_0 := H.cell mX5 (i := 0) rfl
    have d1_1 := H.cell mX5 (i := 1) rfl
    have d1_2 := H.cell mX5 (i := 2) rfl
    have d1_3 := H.cell mX5 (i := 3) rfl
    dsimp only at d1_0 d1_1 d1_2 d1_3
    go_wp2_with fail
    rw [← hXS5.out]
    clear hXS5
    refine (absInI _ _ _ _ _ _ _ _ _ _ _ _ _ _ _ _ _ _ _ _ _ hs0 hs1 pX4 pX5).mono ?_
    rintro e w6 ⟨rfl, hb⟩
    rw [hd0.out]
    replace H := H.next hb
    replace pX4 := pX4.next hb
    replace lX4 := Nat.lt_of_lt_of_le lX4 (Below.size hb)
    replace pX5 := pX5.next hb
    replace lX5 := Nat.lt_of_lt_of_le lX5 (Below.size hb)
    clear c0 c1 c2 c3 d1_0 d1_1 d1_2 d1_3
    clear hb
    have hS0 : HX w w6 L5 w6.drew := ⟨HeldL.drew H, (Below.refl _ w6).drew⟩
    clear H
    go_wp2_with fail
    refine region_inv3 [(0, 35), (1, 36), (2, 37), (3, 38), (4, 39)]
      (fun j v W => match j with
        | 0 => Is (.agg #[.bool on0, .slice (some ⟨X4, 0, none⟩) n0 n0, .int .i64 x0, .int .i64 y0]) v
        | 1 => Is (.agg #[.bool on0, .slice a0 n0 cap0, .int .i64 x0, .int .i64 y0]) v
        | 2 => AbsV on0 n0 lo0 hi0 x0 y0 v W
        | 3 => Is (.bool true) v
        | 4 => Is (.bool false) v
        | _ => True)
      (fun _ W => HX w w6 L5 W) TX
      (by kernel_rfl) (by kernel_rfl) (by kernel_rfl) (by kernel_rfl) (by kernel_rfl) rfl hS0 ?_ ?_ ?_
    · intro i j v W W' hji hφ hT
      match j, hji, hφ with
      | 0, _, hφ => exact hφ
      | 1, _, hφ => exact hφ
      | 2, _, hφ => exact hφ.next hT
      | 3, _, hφ => exact hφ
      | 4, _, hφ => exact hφ
      | _ + 5, _, _ => trivial
    · intro i L vals W hi' hφ hS hL hd
      have hi2 : i < 5 := hi'
      clear hi'
      rcases (show i = 0 ∨ i = 1 ∨ i = 2 ∨ i = 3 ∨ i = 4 by omega) with rfl | rfl | rfl | rfl | rfl
      · have c0 := hS.cell mX4 (i := 0) rfl
        have c1 := hS.cell mX4 (i := 1) rfl
        have c2 := hS.cell mX4 (i := 2) rfl
        have c3 := hS.cell mX4 (i := 3) rfl
        dsimp only at c0 c1 c2 c3
        refine wpAt_of rfl rfl ?_
        simp only [frOf, Act.put]
        go_wp2_with fail
        first | exact ⟨trivial, rfl, Below.refl _ _, hS⟩ | exact ⟨rfl, Below.refl _ _, hS⟩
      · have c0 := hS.cell m0 (i := 0) rfl
        have c1 := hS.cell m0 (i := 1) rfl
        have c2 := hS.cell m0 (i := 2) rfl
        have c3 := hS.cell m0 (i := 3) rfl
        dsimp only at c0 c1 c2 c3
        refine wpAt_of rfl rfl ?_
        simp only [frOf, Act.put]
        go_wp2_with fail
        first | exact ⟨trivial, rfl, Below.refl _ _, hS⟩ | exact ⟨rfl, Below.refl _ _, hS⟩
      · have k1 : vals 1 = .agg #[.bool on0, .slice a0 n0 cap0, .int .i64 x0, .int .i64 y0] := hφ 1 (hd 1 (by decide))
        refine wpAt_of rfl rfl ?_
        simp only [frOf, Act.put]
        go_wp2_with fail
        refine (toAbs _ _ _ _ _ _ _ _ _ _ _ hs0 (r0.next (HX.below hS))).mono ?_
        rintro e W' ⟨gN, rfl, _, lgN, pgN, _, hb⟩
        go_wp2_with fail
        first | exact ⟨trivial, ⟨_, rfl, lgN, pgN⟩, hb, HX.next hb hS⟩ | exact ⟨⟨_, rfl, lgN, pgN⟩, hb, HX.next hb hS⟩
      · have k0 : vals 0 = .agg #[.bool on0, .slice (some ⟨X4, 0, none⟩) n0 n0, .int .i64 x0, .int .i64 y0] := hφ 0 (hd 0 (by decide))
        obtain ⟨g2, k2, l2, q2⟩ : AbsV on0 n0 lo0 hi0 x0 y0 (vals 2) W := hφ 2 (hd 2 (by decide))
        refine wpAt_of rfl rfl ?_
        simp only [frOf, Act.put]
        go_wp2_with fail
        refine (eqAbs _ _ _ _ _ _ _ _ _ hs0 (pX4.next (HX.beh hS)) q2).mono ?_
        rintro e W' ⟨rfl, hb⟩
        go_wp2_with fail
        first | exact ⟨trivial, rfl, hb, HX.next hb hS⟩ | exact ⟨rfl, hb, HX.next hb hS⟩
      · have k3 : vals 3 = .bool true := hφ 3 (hd 3 (by decide))
        refine wpAt_of rfl rfl ?_
        simp only [frOf, Act.put]
        go_wp2_with fail
        first | exact ⟨trivial, rfl, Below.refl _ _, hS⟩ | exact ⟨rfl, Below.refl _ _, hS⟩
    · intro L vals v7 hall hφ hS
      have k0 : vals 0 = .agg #[.bool on0, .slice (some ⟨X4, 0, none⟩) n0 n0, .int .i64 x0, .int .i64 y0] := hφ 0 (by decide)
      have k1 : vals 1 = .agg #[.bool on0, .slice a0 n0 cap0, .int .i64 x0, .int .i64 y0] := hφ 1 (by decide)
      have k3 : vals 3 = .bool true := hφ 3 (by decide)
      have k4 : vals 4 = .bool false := hφ 4 (by decide)
      simp only [frOf, Act.put, List.setIfInBounds_toArray, List.set_cons_succ, List.set_cons_zero, k0, k1, k3, k4]
      clear k0 k1 k3 k4 hall hφ hS0
      have H := hS.1
      replace pX4 := pX4.next hS.2
      replace lX4 := Nat.lt_of_lt_of_le lX4 (Below.size hS.2)
      replace pX5 := pX5.next hS.2
      replace lX5 := Nat.lt_of_lt_of_le lX5 (Below.size hS.2)
      clear hS
      have hS0 : HX w v7 L5 v7.drew := ⟨HeldL.drew H, (Below.refl _ v7).drew⟩
      clear H
      go_wp2_with fail
      refine region_inv3 [(0, 40), (1, 41), (2, 42), (3, 43), (4, 44)]
        (fun j v W => match j with
          | 0 => Is (.agg #[.bool on1, .slice (some ⟨X5, 0, none⟩) n1 n1, .int .i64 x1, .int .i64 y1]) v
          | 1 => Is (.agg #[.bool on1, .slice a1 n1 cap1, .int .i64 x1, .int .i64 y1]) v
          | 2 => AbsV on1 n1 lo1 hi1 x1 y1 v W
          | 3 => Is (.bool true) v
          | 4 => Is (.bool false) v
          | _ => True)
        (fun _ W => HX w v7 L5 W) TX
        (by kernel_rfl) (by kernel_rfl) (by kernel_rfl) (by kernel_rfl) (by kernel_rfl) rfl hS0 ?_ ?_ ?_
      · intro i j v W W' hji hφ hT
        match j, hji, hφ with
        | 0, _, hφ => exact hφ
        | 1, _, hφ => exact hφ
        | 2, _, hφ => exact hφ.next hT
        | 3, _, hφ => exact hφ
        | 4, _, hφ => exact hφ
        | _ + 5, _, _ => trivial
      · intro i L vals W hi' hφ hS hL hd
        have hi2 : i < 5 := hi'
        clear hi'
        rcases (show i = 0 ∨ i = 1 ∨ i = 2 ∨ i = 3 ∨ i = 4 by omega) with rfl | rfl | rfl | rfl | rfl
        · have c0 := hS.cell mX5 (i := 0) rfl
          have c1 := hS.cell mX5 (i := 1) rfl
          have c2 := hS.cell mX5 (i := 2) rfl
          have c3 := hS.cell mX5 (i := 3) rfl
          dsimp only at c0 c1 c2 c3
          refine wpAt_of rfl rfl ?_
          simp only [frOf, Act.put]
          go_wp2_with fail
          first | exact ⟨trivial, rfl, Below.refl _ _, hS⟩ | exact ⟨rfl, Below.refl _ _, hS⟩
        · have c0 := hS.cell m1 (i := 0) rfl
          have c1 := hS.cell m1 (i := 1) rfl
          have c2 := hS.cell m1 (i := 2) rfl
          have c3 := hS.cell m1 (i := 3) rfl
          dsimp only at c0 c1 c2 c3
          refine wpAt_of rfl rfl ?_
          simp only [frOf, Act.put]
          go_wp2_with fail
          first | exact ⟨trivial, rfl, Below.refl _ _, hS⟩ | exact ⟨rfl, Below.refl _ _, hS⟩
        · have k1 : vals 1 = .agg #[.bool on1, .slice a1 n1 cap1, .int .i64 x1, .int .i64 y1] := hφ 1 (hd 1 (by decide))
          refine wpAt_of rfl rfl ?_
          simp only [frOf, Act.put]
          go_wp2_with fail
          refine (toAbs _ _ _ _ _ _ _ _ _ _ _ hs1 (r1.next (HX.below hS))).mono ?_
          rintro e W' ⟨gN, rfl, _, lgN, pgN, _, hb⟩
          go_wp2_with fail
          first | exact ⟨trivial, ⟨_, rfl, lgN, pgN⟩, hb, HX.next hb hS⟩ | exact ⟨⟨_, rfl, lgN, pgN⟩, hb, HX.next hb hS⟩
        · have k0 : vals 0 = .agg #[.bool on1, .slice (some ⟨X5, 0, none⟩) n1 n1, .int .i64 x1, .int .i64 y1] := hφ 0 (hd 0 (by decide))
          obtain ⟨g2, k2, l2, q2⟩ : AbsV on1 n1 lo1 hi1 x1 y1 (vals 2) W := hφ 2 (hd 2 (by decide))
          refine wpAt_of rfl rfl ?_
          simp only [frOf, Act.put]
          go_wp2_with fail
          refine (eqAbs _ _ _ _ _ _ _ _ _ hs1 (pX5.next (HX.beh hS)) q2).mono ?_
          rintro e W' ⟨rfl, hb⟩
          go_wp2_with fail
          first | exact ⟨trivial, rfl, hb, HX.next hb hS⟩ | exact ⟨rfl, hb, HX.next hb hS⟩
        · have k3 : vals 3 = .bool true := hφ 3 (hd 3 (by decide))
          refine wpAt_of rfl rfl ?_
          simp only [frOf, Act.put]
          go_wp2_with fail
          first | exact ⟨trivial, rfl, Below.refl _ _, hS⟩ | exact ⟨rfl, Below.refl _ _, hS⟩
      · intro L vals v8 hall hφ hS
        have k0 : vals 0 = .agg #[.bool on1, .slice (some ⟨X5, 0, none⟩) n1 n1, .int .i64 x1, .int .i64 y1] := hφ 0 (by decide)
        have k1 : vals 1 = .agg #[.bool on1, .slice a1 n1 cap1, .int .i64 x1, .int .i64 y1] := hφ 1 (by decide)
        have k3 : vals 3 = .bool true := hφ 3 (by decide)
        have k4 : vals 4 = .bool false := hφ 4 (by decide)
        simp only [frOf, Act.put, List.setIfInBounds_toArray, List.set_cons_succ, List.set_cons_zero, k0, k1, k3, k4]
        clear k0 k1 k3 k4 hall hφ hS0
        have H := hS.1
        replace pX4 := pX4.next hS.2
        replace lX4 := Nat.lt_of_lt_of_le lX4 (Below.size hS.2)
        replace pX5 := pX5.next hS.2
        replace lX5 := Nat.lt_of_lt_of_le lX5 (Below.size hS.2)
        clear hS
        go_wp2_with fail
        go_ret
        exact ⟨rfl, H.below⟩

set_option maxRecDepth 100000 in
theorem contract (H : Type) (enc : TypeId × Value → H) (W : World) (base : Nat) (args : Array Value) (ds gs : List (DataW H)) (before : List MemPlace)
    (hval : ∀ (j : Nat) t v, Try.f5.params[j]? = some t → args[j]? = some v → Value.okWide Try.prog W .any base t v)
    (hW : DataW.Whole enc Try.prog Try.f5.params.toList Rows.fnExactAbsInSpec.vars false W args.toList ds gs before) :
    Calls Try.prog 5 args W fun e W' => ∃ v, e = .returned v ∧ Rows.fnExactAbsInSpec.post enc Try.prog Try.f5 false true false false W args v W' := by
  have hW' := hW
  obtain ⟨p, q, hA0, hV, rfl, hfz, hnd⟩ := hW
  have hA : DataW.TrodAll enc Try.prog W 0 (fun _ => true) true Try.f5.params.toList args.toList ds p := hA0
  rw [Try.params5] at hA hval
  obtain ⟨v0, vs0, d0, ds0, p0, q0, hargs, rfl, rfl, h0, r0'⟩ := trodAll_cons hA
  obtain ⟨v1, vs1, d1, ds1, p1, q1, rfl, rfl, rfl, h1, r1'⟩ := trodAll_cons r0'
  obtain ⟨rfl, rfl, rfl⟩ := trodAll_nil r1'
  obtain rfl : args = #[v0, v1] := by cases args; simp_all
  obtain ⟨rfl, rfl⟩ := trodVars_none hV
  have k0 := h0
  have lt0 : ∀ x ∈ p0, x.block < W.heap.size := by obtain ⟨m, hm⟩ := k0; exact DataW.trod_lt m _ _ _ hm
  obtain ⟨on0, x0, y0, a0, n0, cap0, rfl, hn0, r0⟩ := open_abs (hval 0 26 v0 rfl rfl) h0
  have k1 := h1
  have lt1 : ∀ x ∈ p1, x.block < W.heap.size := by obtain ⟨m, hm⟩ := k1; exact DataW.trod_lt m _ _ _ hm
  obtain ⟨on1, x1, y1, a1, n1, cap1, rfl, hn1, r1⟩ := open_abs (hval 1 26 v1 rfl rfl) h1
  clear hA0
  refine (walk on0 x0 y0 a0 _ _ n0 cap0 _ _ hn0 on1 x1 y1 a1 _ _ n1 cap1 _ _ hn1 W r0 r1).mono fun e W' ⟨he, bel⟩ => ?_
  subst he
  exact ⟨_, rfl, _, _, _, [], _, [], hW', trodAll_mk1 (shut_bool Try.underlying4 _), (trodAll_cons_mk (Below.trod laidOut (by kernel_rfl) (of_decide_eq_true (by kernel_rfl)) k0 bel lt0) (trodAll_cons_mk (Below.trod laidOut (by kernel_rfl) (of_decide_eq_true (by kernel_rfl)) k1 bel lt1) trodAll_mk0)), rfl, bel.frame _, fun h => by cases h⟩

set_option maxRecDepth 100000 in
theorem lifted (os : Os) (started : os.Started) (H : Type) (enc : TypeId × Value → H) :
    ReturnsInHanded {} Try.checked os 5 .any (Rows.fnExactAbsInSpec.pre6 enc Try.prog Try.f5 Rows.fnExactAbsInRow.domain false) (Rows.fnExactAbsInSpec.post enc Try.prog Try.f5 false true false false) := by
  refine returnsInHanded_of_change (C := Try.checked) own started (by kernel_rfl) Try.func5
    (ChangeSpec.witness6 (enc := enc) (C := Try.checked) false ⟨#[], #[.agg #[.bool false, .slice none 0 0, .int .i64 0, .int .i64 0], .agg #[.bool false, .slice none 0 0, .int .i64 0, .int .i64 0]], []⟩ 8 (by kernel_rfl) (by kernel_rfl) (by kernel_rfl) (by kernel_rfl)) ?_
  intro W base args ds gs before hval hW _ _
  exact contract H enc W base args ds gs before hval hW

theorem proved : Rows.FnExactAbsInSaid :=
  OpenClaim.holds_of_wide 5 Try.f5 rfl rfl rfl rfl rfl rfl rfl ⟨rfl, rfl, rfl, rfl, rfl⟩ rfl rfl rfl rfl rfl (by kernel_rfl) Try.func5 (by kernel_rfl)
    (of_decide_eq_true (by kernel_rfl)) (by unfold Func.isWrapper; first | (rw [if_pos (by decide +kernel)]; kernel_rfl) | (rw [if_neg (by decide +kernel)]; exact ⟨rfl, rfl⟩))
    (fun os started H enc _ => lifted os started H enc)
#print axioms proved
end Go.Proofs.Ytddcojeghdnhnaa.fnExactAbsIn
