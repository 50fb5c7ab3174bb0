/- Whatever is handed in, the law FnExactAbsFails returns true: the program's AbsFails answers as the model's, and turns nothing of its arguments. No condition. Of what has more than 1048576 entries the law itself answers true. -/
import Derived.Test.YtdpkbbbfnmneiaaOpenPrg
import Derived.Test.YtdpkbbbfnmneiaaOpenAbs
import Derived.Test.YtdpkbbbfnmneiaaExLaw
import Derived.Test.YtdpkbbbfnmneiaaPrgX
import Derived.Test.YtdpkbbbfnmneiaaAbsX
import Derived.Test.YtdpkbbbfnmneiaaFailJ
import Derived.Deep.RegionHeld3
import Derived.Deep.DeepCutAuto
import Derived.WalkKit
import Derived.ProofKit
import Derived.OpenShut
import Derived.ShutString
import Derived.ChangeOld
import Derived.Below
namespace Go.Proofs.Ytdpkbbbfnmneiaa.fnExactAbsFails
open Go.ChangeShapes Go.WideShapes Go.ChangeAt Go.RowKit
open Go.ChangeMaps (open_string shut_string)
set_option linter.unusedVariables false

theorem own : ownKnob Try.prog.godebug = none := by kernel_rfl
theorem laidOut : laidOutB Try.prog = true := by kernel_rfl


set_option maxRecDepth 10000 in
set_option maxHeartbeats 40000000 in
theorem walk (a0 : Option Addr) (m0 cap0 b0 off0 : Nat) (P0 : Nat → Proc) (S0 : Nat → Spot) (hm0 : m0 ≤ maxLen) (hn0 : ∀ i, i < m0 → (P0 i).n ≤ maxLen) (z0_1 z1_1 z2_1 z3_1 z4_1 z5_1 z6_1 z7_1 : Int) (w0_1 : (Lit.int .i64 z0_1).wf = true) (w1_1 : (Lit.int .i64 z1_1).wf = true) (w2_1 : (Lit.int .i64 z2_1).wf = true) (w3_1 : (Lit.int .i64 z3_1).wf = true) (w4_1 : (Lit.int .i64 z4_1).wf = true) (w5_1 : (Lit.int .i64 z5_1).wf = true) (w6_1 : (Lit.int .i64 z6_1).wf = true) (w7_1 : (Lit.int .i64 z7_1).wf = true) (on2 : Bool) (x2 y2 : Int) (a2 : Option Addr) (b2 off2 n2 cap2 : Nat) (lo2 hi2 : Nat → Int) (hn2 : n2 ≤ maxLen) (w : World) (r0 : ProcsAt a0 b0 off0 m0 P0 S0 w) (r2 : BndsAt a2 b2 off2 n2 lo2 hi2 w) :
    Calls Try.prog 7 #[.agg #[.slice a0 m0 cap0], .agg #[.int .i64 z0_1, .int .i64 z1_1, .int .i64 z2_1, .int .i64 z3_1, .int .i64 z4_1, .int .i64 z5_1, .int .i64 z6_1, .int .i64 z7_1], .agg #[.bool on2, .slice a2 n2 cap2, .int .i64 x2, .int .i64 y2]] w fun e w' => e = .returned (.bool true) ∧ Below w.heap.size w w' := by
  have H : HeldL w [(w.heap.size + 1 + 1, [Value.bool on2, .slice a2 n2 cap2, .int .i64 x2, .int .i64 y2]), (w.heap.size + 1, [Value.int .i64 z0_1, .int .i64 z1_1, .int .i64 z2_1, .int .i64 z3_1, .int .i64 z4_1, .int .i64 z5_1, .int .i64 z6_1, .int .i64 z7_1]), (w.heap.size, [Value.slice a0 m0 cap0])] (((w.alloc (.cells #[.slice a0 m0 cap0] 24)).alloc (.cells #[.int .i64 z0_1, .int .i64 z1_1, .int .i64 z2_1, .int .i64 z3_1, .int .i64 z4_1, .int .i64 z5_1, .int .i64 z6_1, .int .i64 z7_1] 64)).alloc (.cells #[.bool on2, .slice a2 n2 cap2, .int .i64 x2, .int .i64 y2] 69)) := by
    have e1 : w.heap.size + 1 = (w.alloc (.cells #[.slice a0 m0 cap0] 24)).heap.size := by simp
    have e2 : w.heap.size + 1 + 1 = ((w.alloc (.cells #[.slice a0 m0 cap0] 24)).alloc (.cells #[.int .i64 z0_1, .int .i64 z1_1, .int .i64 z2_1, .int .i64 z3_1, .int .i64 z4_1, .int .i64 z5_1, .int .i64 z6_1, .int .i64 z7_1] 64)).heap.size := by simp
    rw [e2, e1]
    exact HeldL.newL (vs := [Value.bool on2, .slice a2 n2 cap2, .int .i64 x2, .int .i64 y2]) (HeldL.newL (vs := [Value.int .i64 z0_1, .int .i64 z1_1, .int .i64 z2_1, .int .i64 z3_1, .int .i64 z4_1, .int .i64 z5_1, .int .i64 z6_1, .int .i64 z7_1]) (HeldL.newL (vs := [Value.slice a0 m0 cap0]) (HeldL.nil w)))
  obtain ⟨Lb, hLb⟩ : ∃ L, L = [(w.heap.size + 1 + 1, [Value.bool on2, .slice a2 n2 cap2, .int .i64 x2, .int .i64 y2]), (w.heap.size + 1, [Value.int .i64 z0_1, .int .i64 z1_1, .int .i64 z2_1, .int .i64 z3_1, .int .i64 z4_1, .int .i64 z5_1, .int .i64 z6_1, .int .i64 z7_1]), (w.heap.size, [Value.slice a0 m0 cap0])] := ⟨_, rfl⟩
  have mb0 : (w.heap.size, [Value.slice a0 m0 cap0]) ∈ Lb := by rw [hLb]; simp
  have mb1 : (w.heap.size + 1, [Value.int .i64 z0_1, .int .i64 z1_1, .int .i64 z2_1, .int .i64 z3_1, .int .i64 z4_1, .int .i64 z5_1, .int .i64 z6_1, .int .i64 z7_1]) ∈ Lb := by rw [hLb]; simp
  have mb2 : (w.heap.size + 1 + 1, [Value.bool on2, .slice a2 n2 cap2, .int .i64 x2, .int .i64 y2]) ∈ Lb := by rw [hLb]; simp
  rw [← hLb] at H
  clear hLb
  go_enter Try.func7, Try.ntmps7
  go_wp2_with fail
  refine (szPrgX _ _ _ _ _ _ _ 1048576 _ (by omega) hm0 (r0.next H.below) hn0).mono ?_
  rintro e w1 ⟨u1, rfl, hu, hb⟩
  replace H := H.next hb
  clear hb
  rcases hu with rfl | hu
  · go_wp2_with fail
    go_ret
    exact ⟨rfl, H.below⟩
  have hs0 : m0 ≤ 1048576 := by omega
  have hN0 : ∀ i, i < m0 → (P0 i).n ≤ 1048576 := fun i hi => by have := sizeTo_le (P := P0) hi; omega
  have hl1 : 0 ≤ u1 ∧ u1 ≤ 1048576 := by omega
  have hg1 : ¬ u1 < 0 := by omega
  clear hu
  have c0 := H.cell mb2 (i := 0) rfl
  have c1 := H.cell mb2 (i := 1) rfl
  have c2 := H.cell mb2 (i := 2) rfl
  have c3 := H.cell mb2 (i := 3) rfl
  dsimp only at c0 c1 c2 c3
  go_wp2_with fail
  refine (szAbs _ _ _ _ _ _ u1 _ hl1 hn2).mono ?_
  rintro e w2 ⟨u2, rfl, hu, hb⟩
  replace H := H.next hb
  clear hb
  clear c0 c1 c2 c3
  rcases hu with rfl | hu
  · go_wp2_with fail
    go_ret
    exact ⟨rfl, H.below⟩
  have hs2 : n2 ≤ 1048576 := by omega
  have hl2 : 0 ≤ u2 ∧ u2 ≤ 1048576 := by omega
  have hg2 : ¬ u2 < 0 := by omega
  clear hu
  clear hl1 hg1
  obtain ⟨d, hd0'⟩ : ∃ d, absFails P0 m0 z0_1 z1_1 z2_1 z3_1 z4_1 z5_1 z6_1 z7_1 on2 n2 lo2 hi2 x2 y2 = d := ⟨_, rfl⟩
  have hd0 : Hid (absFails P0 m0 z0_1 z1_1 z2_1 z3_1 z4_1 z5_1 z6_1 z7_1 on2 n2 lo2 hi2 x2 y2 = d) := hd0'
  clear hd0'
  have hS0 : HX w w2 Lb w2.drew := ⟨HeldL.drew H, (Below.refl _ w2).drew⟩
  clear H
  go_wp2_with fail
  refine region_inv3 [(0, 22), (1, 23), (2, 24), (3, 25), (4, 26), (5, 27), (6, 28), (7, 8)]
    (fun j v W => match j with
      | 0 => Is (.agg #[.slice a0 m0 cap0]) v
      | 1 => PrgX P0 m0 v W
      | 2 => Is (.agg #[.int .i64 z0_1, .int .i64 z1_1, .int .i64 z2_1, .int .i64 z3_1, .int .i64 z4_1, .int .i64 z5_1, .int .i64 z6_1, .int .i64 z7_1]) v
      | 3 => Is (.agg #[.int .i64 z0_1, .int .i64 z1_1, .int .i64 z2_1, .int .i64 z3_1, .int .i64 z4_1, .int .i64 z5_1, .int .i64 z6_1, .int .i64 z7_1]) v
      | 4 => Is (.agg #[.bool on2, .slice a2 n2 cap2, .int .i64 x2, .int .i64 y2]) v
      | 5 => AbsV on2 n2 lo2 hi2 x2 y2 v W
      | 6 => Is (.bool d) v
      | 7 => Is (.bool d) v
      | _ => True)
    (fun _ W => HX w w2 Lb W) TX
    (by kernel_rfl) (by kernel_rfl) (by kernel_rfl) (by kernel_rfl) (by kernel_rfl) rfl hS0 ?_ ?_ ?_
  · intro i j v W W' hji hφ hT
    match j, hji, hφ with
    | 0, _, hφ => exact hφ
    | 1, _, hφ => exact hφ.next hT
    | 2, _, hφ => exact hφ
    | 3, _, hφ => exact hφ
    | 4, _, hφ => exact hφ
    | 5, _, hφ => exact hφ.next hT
    | 6, _, hφ => exact hφ
    | 7, _, hφ => exact hφ
    | _ + 8, _, _ => trivial
  · intro i L vals W hi' hφ hS hL hd
    have hiz : i < 8 := hi'
    clear hi'
    rcases (show i = 0 ∨ i = 1 ∨ i = 2 ∨ i = 3 ∨ i = 4 ∨ i = 5 ∨ i = 6 ∨ i = 7 by omega) with rfl | rfl | rfl | rfl | rfl | rfl | rfl | rfl
    · have c0 := hS.cell mb0 (i := 0) rfl
      dsimp only at c0
      refine wpAt_of rfl rfl ?_
      simp only [frOf, Act.put]
      go_wp2_with fail
      first | exact ⟨trivial, rfl, Below.refl _ _, hS⟩ | exact ⟨rfl, Below.refl _ _, hS⟩
    · have k0 : vals 0 = .agg #[.slice a0 m0 cap0] := hφ 0 (hd 0 (by decide))
      refine wpAt_of rfl rfl ?_
      simp only [frOf, Act.put]
      go_wp2_with fail
      refine (toPrg _ _ _ _ _ _ _ _ hs0 hN0 (r0.next (HX.below hS))).mono ?_
      rintro e W' ⟨gN, SgN, rfl, _, lgN, pgN, _, ygN, hb⟩
      go_wp2_with fail
      first | exact ⟨trivial, ⟨_, _, rfl, lgN, pgN, ygN⟩, hb, HX.next hb hS⟩ | exact ⟨⟨_, _, rfl, lgN, pgN, ygN⟩, hb, HX.next hb hS⟩
    · have c0 := hS.cell mb1 (i := 0) rfl
      have c1 := hS.cell mb1 (i := 1) rfl
      have c2 := hS.cell mb1 (i := 2) rfl
      have c3 := hS.cell mb1 (i := 3) rfl
      have c4 := hS.cell mb1 (i := 4) rfl
      have c5 := hS.cell mb1 (i := 5) rfl
      have c6 := hS.cell mb1 (i := 6) rfl
      have c7 := hS.cell mb1 (i := 7) rfl
      dsimp only at c0 c1 c2 c3 c4 c5 c6 c7
      refine wpAt_of rfl rfl ?_
      simp only [frOf, Act.put]
      go_wp2_with fail
      first | exact ⟨trivial, rfl, Below.refl _ _, hS⟩ | exact ⟨rfl, Below.refl _ _, hS⟩
    · have k2 : vals 2 = .agg #[.int .i64 z0_1, .int .i64 z1_1, .int .i64 z2_1, .int .i64 z3_1, .int .i64 z4_1, .int .i64 z5_1, .int .i64 z6_1, .int .i64 z7_1] := hφ 2 (hd 2 (by decide))
      refine wpAt_of rfl rfl ?_
      simp only [frOf, Act.put]
      go_wp2_with fail
      refine (toIns _ _ _ _ _ _ _ _ _).mono ?_
      rintro e W' ⟨rfl, hb⟩
      go_wp2_with fail
      first | exact ⟨trivial, rfl, hb, HX.next hb hS⟩ | exact ⟨rfl, hb, HX.next hb hS⟩
    · have c0 := hS.cell mb2 (i := 0) rfl
      have c1 := hS.cell mb2 (i := 1) rfl
      have c2 := hS.cell mb2 (i := 2) rfl
      have c3 := hS.cell mb2 (i := 3) rfl
      dsimp only at c0 c1 c2 c3
      refine wpAt_of rfl rfl ?_
      simp only [frOf, Act.put]
      go_wp2_with fail
      first | exact ⟨trivial, rfl, Below.refl _ _, hS⟩ | exact ⟨rfl, Below.refl _ _, hS⟩
    · have k4 : vals 4 = .agg #[.bool on2, .slice a2 n2 cap2, .int .i64 x2, .int .i64 y2] := hφ 4 (hd 4 (by decide))
      refine wpAt_of rfl rfl ?_
      simp only [frOf, Act.put]
      go_wp2_with fail
      refine (toAbs _ _ _ _ _ _ _ _ _ _ _ hs2 (r2.next (HX.below hS))).mono ?_
      rintro e W' ⟨gN, rfl, _, lgN, pgN, _, hb⟩
      go_wp2_with fail
      first | exact ⟨trivial, ⟨_, rfl, lgN, pgN⟩, hb, HX.next hb hS⟩ | exact ⟨⟨_, rfl, lgN, pgN⟩, hb, HX.next hb hS⟩
    · obtain ⟨g1, S1, k1, l1, q1, y1⟩ : PrgX P0 m0 (vals 1) W := hφ 1 (hd 1 (by decide))
      have k3 : vals 3 = .agg #[.int .i64 z0_1, .int .i64 z1_1, .int .i64 z2_1, .int .i64 z3_1, .int .i64 z4_1, .int .i64 z5_1, .int .i64 z6_1, .int .i64 z7_1] := hφ 3 (hd 3 (by decide))
      obtain ⟨g5, k5, l5, q5⟩ : AbsV on2 n2 lo2 hi2 x2 y2 (vals 5) W := hφ 5 (hd 5 (by decide))
      refine wpAt_of rfl rfl ?_
      simp only [frOf, Act.put]
      go_wp2_with fail
      refine (absFailsS _ _ _ _ _ _ _ _ _ _ _ _ _ _ _ _ _ _ _ _ _ _ _ _ _ _ hs0 hN0 hs2 q1 q5).mono ?_
      rintro e W' ⟨rfl, hb⟩
      rw [hd0.out]
      go_wp2_with fail
      first | exact ⟨trivial, rfl, hb, HX.next hb hS⟩ | exact ⟨rfl, hb, HX.next hb hS⟩
    · have k6 : vals 6 = .bool d := hφ 6 (hd 6 (by decide))
      refine wpAt_of rfl rfl ?_
      simp only [frOf, Act.put]
      go_wp2_with fail
      first | exact ⟨trivial, rfl, Below.refl _ _, hS⟩ | exact ⟨rfl, Below.refl _ _, hS⟩
  · intro L vals v3 hall hφ hS
    have k0 : vals 0 = .agg #[.slice a0 m0 cap0] := hφ 0 (by decide)
    have k2 : vals 2 = .agg #[.int .i64 z0_1, .int .i64 z1_1, .int .i64 z2_1, .int .i64 z3_1, .int .i64 z4_1, .int .i64 z5_1, .int .i64 z6_1, .int .i64 z7_1] := hφ 2 (by decide)
    have k3 : vals 3 = .agg #[.int .i64 z0_1, .int .i64 z1_1, .int .i64 z2_1, .int .i64 z3_1, .int .i64 z4_1, .int .i64 z5_1, .int .i64 z6_1, .int .i64 z7_1] := hφ 3 (by decide)
    have k4 : vals 4 = .agg #[.bool on2, .slice a2 n2 cap2, .int .i64 x2, .int .i64 y2] := hφ 4 (by decide)
    have k6 : vals 6 = .bool d := hφ 6 (by decide)
    have k7 : vals 7 = .bool d := hφ 7 (by decide)
    simp only [frOf, Act.put, List.setIfInBounds_toArray, List.set_cons_succ, List.set_cons_zero, k0, k2, k3, k4, k6, k7]
    clear k0 k2 k3 k4 k6 k7 hall hφ hS0
    have H := hS.1
    clear hS
    have c0 := H.cell mb0 (i := 0) rfl
    dsimp only at c0
    go_wp2_with fail
    refine (toPrg _ _ _ _ _ _ _ _ hs0 hN0 (r0.next (HeldL.below H))).mono ?_
    rintro e w4 ⟨X4, SX4, rfl, _, lX4, pX4, _, yX4, hb⟩
    have ka : Below w4.heap.size w4 (w4.alloc (.cells #[.slice (some ⟨X4, 0, none⟩) m0 m0] 35)) := (Below.refl _ _).alloc (Nat.le_refl _) _
    replace H := HeldL.newL (vs := [Value.slice (some ⟨X4, 0, none⟩) m0 m0]) (t := 35) (HeldL.next hb H)
    replace hb := below_tr hb ka
    replace pX4 := pX4.next ka
    replace lX4 := Nat.lt_of_lt_of_le lX4 (Below.size ka)
    clear c0
    clear hb ka
    obtain ⟨B4, hX⟩ : ∃ X, X = w4.heap.size := ⟨_, rfl⟩
    rw [← hX] at H
    have hXS4 : Hid (B4 = w4.heap.size) := hX
    clear hX
    obtain ⟨L4, hL⟩ : ∃ L, L = (B4, [Value.slice (some ⟨X4, 0, none⟩) m0 m0]) :: Lb := ⟨_, rfl⟩
    rw [← hL] at H
    have mX4 : (B4, [Value.slice (some ⟨X4, 0, none⟩) m0 m0]) ∈ L4 := by rw [hL]; simp
    replace mb0 := List.mem_cons_of_mem (B4, [Value.slice (some ⟨X4, 0, none⟩) m0 m0]) mb0
    rw [← hL] at mb0
    replace mb1 := List.mem_cons_of_mem (B4, [Value.slice (some ⟨X4, 0, none⟩) m0 m0]) mb1
    rw [← hL] at mb1
    replace mb2 := List.mem_cons_of_mem (B4, [Value.slice (some ⟨X4, 0, none⟩) m0 m0]) mb2
    rw [← hL] at mb2
    clear hL
    have c0 := H.cell mb2 (i := 0) rfl
    have c1 := H.cell mb2 (i := 1) rfl
    have c2 := H.cell mb2 (i := 2) rfl
    have c3 := H.cell mb2 (i := 3) rfl
    dsimp only at c0 c1 c2 c3
    go_wp2_with fail
    rw [← hXS4.out]
    clear hXS4
    refine (toAbs _ _ _ _ _ _ _ _ _ _ _ hs2 (r2.next (HeldL.below H))).mono ?_
    rintro e w5 ⟨X5, rfl, _, lX5, pX5, _, hb⟩
    have ka : Below w5.heap.size w5 (w5.alloc (.cells #[.bool on2, .slice (some ⟨X5, 0, none⟩) n2 n2, .int .i64 x2, .int .i64 y2] 77)) := (Below.refl _ _).alloc (Nat.le_refl _) _
    replace H := HeldL.newL (vs := [Value.bool on2, .slice (some ⟨X5, 0, none⟩) n2 n2, .int .i64 x2, .int .i64 y2]) (t := 77) (HeldL.next hb H)
    replace hb := below_tr hb ka
    replace pX4 := pX4.next hb
    replace lX4 := Nat.lt_of_lt_of_le lX4 (Below.size hb)
    replace pX5 := pX5.next ka
    replace lX5 := Nat.lt_of_lt_of_le lX5 (Below.size ka)
    clear c0 c1 c2 c3
    clear hb ka
    obtain ⟨B5, hX⟩ : ∃ X, X = w5.heap.size := ⟨_, rfl⟩
    rw [← hX] at H
    have hXS5 : Hid (B5 = w5.heap.size) := hX
    clear hX
    obtain ⟨L5, hL⟩ : ∃ L, L = (B5, [Value.bool on2, .slice (some ⟨X5, 0, none⟩) n2 n2, .int .i64 x2, .int .i64 y2]) :: L4 := ⟨_, rfl⟩
    rw [← hL] at H
    have mX5 : (B5, [Value.bool on2, .slice (some ⟨X5, 0, none⟩) n2 n2, .int .i64 x2, .int .i64 y2]) ∈ L5 := by rw [hL]; simp
    replace mb0 := List.mem_cons_of_mem (B5, [Value.bool on2, .slice (some ⟨X5, 0, none⟩) n2 n2, .int .i64 x2, .int .i64 y2]) mb0
    rw [← hL] at mb0
    replace mb1 := List.mem_cons_of_mem (B5, [Value.bool on2, .slice (some ⟨X5, 0, none⟩) n2 n2, .int .i64 x2, .int .i64 y2]) mb1
    rw [← hL] at mb1
    replace mb2 := List.mem_cons_of_mem (B5, [Value.bool on2, .slice (some ⟨X5, 0, none⟩) n2 n2, .int .i64 x2, .int .i64 y2]) mb2
    rw [← hL] at mb2
    replace mX4 := List.mem_cons_of_mem (B5, [Value.bool on2, .slice (some ⟨X5, 0, none⟩) n2 n2, .int .i64 x2, .int .i64 y2]) mX4
    rw [← hL] at mX4
    clear hL
    have hS0 : HX w (w5.alloc (.cells #[.bool on2, .slice (some ⟨X5, 0, none⟩) n2 n2, .int .i64 x2, .int .i64 y2] 77)) L5 (w5.alloc (.cells #[.bool on2, .slice (some ⟨X5, 0, none⟩) n2 n2, .int .i64 x2, .int .i64 y2] 77)).drew := ⟨HeldL.drew H, (Below.refl _ (w5.alloc (.cells #[.bool on2, .slice (some ⟨X5, 0, none⟩) n2 n2, .int .i64 x2, .int .i64 y2] 77))).drew⟩
    clear H
    go_wp2_with fail
    rw [← hXS5.out]
    clear hXS5
    refine region_inv3 [(0, 33), (1, 34), (2, 35), (3, 36), (4, 37), (5, 11)]
      (fun j v W => match j with
        | 0 => Is (.agg #[.slice (some ⟨X4, 0, none⟩) m0 m0]) v
        | 1 => Is (.agg #[.int .i64 z0_1, .int .i64 z1_1, .int .i64 z2_1, .int .i64 z3_1, .int .i64 z4_1, .int .i64 z5_1, .int .i64 z6_1, .int .i64 z7_1]) v
        | 2 => Is (.agg #[.int .i64 z0_1, .int .i64 z1_1, .int .i64 z2_1, .int .i64 z3_1, .int .i64 z4_1, .int .i64 z5_1, .int .i64 z6_1, .int .i64 z7_1]) v
        | 3 => Is (.agg #[.bool on2, .slice (some ⟨X5, 0, none⟩) n2 n2, .int .i64 x2, .int .i64 y2]) v
        | 4 => Is (.bool d) v
        | 5 => Is (.bool d) v
        | _ => True)
      (fun _ W => HX w (w5.alloc (.cells #[.bool on2, .slice (some ⟨X5, 0, none⟩) n2 n2, .int .i64 x2, .int .i64 y2] 77)) L5 W) TX
      (by kernel_rfl) (by kernel_rfl) (by kernel_rfl) (by kernel_rfl) (by kernel_rfl) rfl hS0 ?_ ?_ ?_
    · intro i j v W W' hji hφ hT
      match j, hji, hφ with
      | 0, _, hφ => exact hφ
      | 1, _, hφ => exact hφ
      | 2, _, hφ => exact hφ
      | 3, _, hφ => exact hφ
      | 4, _, hφ => exact hφ
      | 5, _, hφ => exact hφ
      | _ + 6, _, _ => trivial
    · intro i L vals W hi' hφ hS hL hd
      have hiz : i < 6 := hi'
      clear hi'
      rcases (show i = 0 ∨ i = 1 ∨ i = 2 ∨ i = 3 ∨ i = 4 ∨ i = 5 by omega) with rfl | rfl | rfl | rfl | rfl | rfl
      · have c0 := hS.cell mX4 (i := 0) rfl
        dsimp only at c0
        refine wpAt_of rfl rfl ?_
        simp only [frOf, Act.put]
        go_wp2_with fail
        first | exact ⟨trivial, rfl, Below.refl _ _, hS⟩ | exact ⟨rfl, Below.refl _ _, hS⟩
      · have c0 := hS.cell mb1 (i := 0) rfl
        have c1 := hS.cell mb1 (i := 1) rfl
        have c2 := hS.cell mb1 (i := 2) rfl
        have c3 := hS.cell mb1 (i := 3) rfl
        have c4 := hS.cell mb1 (i := 4) rfl
        have c5 := hS.cell mb1 (i := 5) rfl
        have c6 := hS.cell mb1 (i := 6) rfl
        have c7 := hS.cell mb1 (i := 7) rfl
        dsimp only at c0 c1 c2 c3 c4 c5 c6 c7
        refine wpAt_of rfl rfl ?_
        simp only [frOf, Act.put]
        go_wp2_with fail
        first | exact ⟨trivial, rfl, Below.refl _ _, hS⟩ | exact ⟨rfl, Below.refl _ _, hS⟩
      · have k1 : vals 1 = .agg #[.int .i64 z0_1, .int .i64 z1_1, .int .i64 z2_1, .int .i64 z3_1, .int .i64 z4_1, .int .i64 z5_1, .int .i64 z6_1, .int .i64 z7_1] := hφ 1 (hd 1 (by decide))
        refine wpAt_of rfl rfl ?_
        simp only [frOf, Act.put]
        go_wp2_with fail
        refine (toIns _ _ _ _ _ _ _ _ _).mono ?_
        rintro e W' ⟨rfl, hb⟩
        go_wp2_with fail
        first | exact ⟨trivial, rfl, hb, HX.next hb hS⟩ | exact ⟨rfl, hb, HX.next hb hS⟩
      · have c0 := hS.cell mX5 (i := 0) rfl
        have c1 := hS.cell mX5 (i := 1) rfl
        have c2 := hS.cell mX5 (i := 2) rfl
        have c3 := hS.cell mX5 (i := 3) rfl
        dsimp only at c0 c1 c2 c3
        refine wpAt_of rfl rfl ?_
        simp only [frOf, Act.put]
        go_wp2_with fail
        first | exact ⟨trivial, rfl, Below.refl _ _, hS⟩ | exact ⟨rfl, Below.refl _ _, hS⟩
      · have k0 : vals 0 = .agg #[.slice (some ⟨X4, 0, none⟩) m0 m0] := hφ 0 (hd 0 (by decide))
        have k2 : vals 2 = .agg #[.int .i64 z0_1, .int .i64 z1_1, .int .i64 z2_1, .int .i64 z3_1, .int .i64 z4_1, .int .i64 z5_1, .int .i64 z6_1, .int .i64 z7_1] := hφ 2 (hd 2 (by decide))
        have k3 : vals 3 = .agg #[.bool on2, .slice (some ⟨X5, 0, none⟩) n2 n2, .int .i64 x2, .int .i64 y2] := hφ 3 (hd 3 (by decide))
        refine wpAt_of rfl rfl ?_
        simp only [frOf, Act.put]
        go_wp2_with fail
        refine (absFailsI _ _ _ _ _ _ _ _ _ _ _ _ _ _ _ _ _ _ _ _ _ _ _ _ _ _ hs0 hN0 hs2 (pX4.next (HX.beh hS)) (pX5.next (HX.beh hS))).mono ?_
        rintro e W' ⟨rfl, hb⟩
        rw [hd0.out]
        go_wp2_with fail
        first | exact ⟨trivial, rfl, hb, HX.next hb hS⟩ | exact ⟨rfl, hb, HX.next hb hS⟩
      · have k4 : vals 4 = .bool d := hφ 4 (hd 4 (by decide))
        refine wpAt_of rfl rfl ?_
        simp only [frOf, Act.put]
        go_wp2_with fail
        first | exact ⟨trivial, rfl, Below.refl _ _, hS⟩ | exact ⟨rfl, Below.refl _ _, hS⟩
    · intro L vals v6 hall hφ hS
      have k0 : vals 0 = .agg #[.slice (some ⟨X4, 0, none⟩) m0 m0] := hφ 0 (by decide)
      have k1 : vals 1 = .agg #[.int .i64 z0_1, .int .i64 z1_1, .int .i64 z2_1, .int .i64 z3_1, .int .i64 z4_1, .int .i64 z5_1, .int .i64 z6_1, .int .i64 z7_1] := hφ 1 (by decide)
      have k2 : vals 2 = .agg #[.int .i64 z0_1, .int .i64 z1_1, .int .i64 z2_1, .int .i64 z3_1, .int .i64 z4_1, .int .i64 z5_1, .int .i64 z6_1, .int .i64 z7_1] := hφ 2 (by decide)
      have k3 : vals 3 = .agg #[.bool on2, .slice (some ⟨X5, 0, none⟩) n2 n2, .int .i64 x2, .int .i64 y2] := hφ 3 (by decide)
      have k4 : vals 4 = .bool d := hφ 4 (by decide)
      have k5 : vals 5 = .bool d := hφ 5 (by decide)
      simp only [frOf, Act.put, List.setIfInBounds_toArray, List.set_cons_succ, List.set_cons_zero, k0, k1, k2, k3, k4, k5]
      clear k0 k1 k2 k3 k4 k5 hall hφ hS0
      have H := hS.1
      replace pX4 := pX4.next hS.2
      replace lX4 := Nat.lt_of_lt_of_le lX4 (Below.size hS.2)
      replace pX5 := pX5.next hS.2
      replace lX5 := Nat.lt_of_lt_of_le lX5 (Below.size hS.2)
      clear hS
      have hS0 : HX w v6 L5 v6.drew := ⟨HeldL.drew H, (Below.refl _ v6).drew⟩
      clear H
      go_wp2_with fail
      refine region_inv3 [(0, 41), (1, 42), (2, 43), (3, 44), (4, 45)]
        (fun j v W => match j with
          | 0 => Is (.agg #[.slice (some ⟨X4, 0, none⟩) m0 m0]) v
          | 1 => Is (.agg #[.slice a0 m0 cap0]) v
          | 2 => PrgX P0 m0 v W
          | 3 => Is (.bool true) v
          | 4 => Is (.bool false) v
          | _ => True)
        (fun _ W => HX w v6 L5 W) TX
        (by kernel_rfl) (by kernel_rfl) (by kernel_rfl) (by kernel_rfl) (by kernel_rfl) rfl hS0 ?_ ?_ ?_
      · intro i j v W W' hji hφ hT
        match j, hji, hφ with
        | 0, _, hφ => exact hφ
        | 1, _, hφ => exact hφ
        | 2, _, hφ => exact hφ.next hT
        | 3, _, hφ => exact hφ
        | 4, _, hφ => exact hφ
        | _ + 5, _, _ => trivial
      · intro i L vals W hi' hφ hS hL hd
        have hiz : i < 5 := hi'
        clear hi'
        rcases (show i = 0 ∨ i = 1 ∨ i = 2 ∨ i = 3 ∨ i = 4 by omega) with rfl | rfl | rfl | rfl | rfl
        · have c0 := hS.cell mX4 (i := 0) rfl
          dsimp only at c0
          refine wpAt_of rfl rfl ?_
          simp only [frOf, Act.put]
          go_wp2_with fail
          first | exact ⟨trivial, rfl, Below.refl _ _, hS⟩ | exact ⟨rfl, Below.refl _ _, hS⟩
        · have c0 := hS.cell mb0 (i := 0) rfl
          dsimp only at c0
          refine wpAt_of rfl rfl ?_
          simp only [frOf, Act.put]
          go_wp2_with fail
          first | exact ⟨trivial, rfl, Below.refl _ _, hS⟩ | exact ⟨rfl, Below.refl _ _, hS⟩
        · have k1 : vals 1 = .agg #[.slice a0 m0 cap0] := hφ 1 (hd 1 (by decide))
          refine wpAt_of rfl rfl ?_
          simp only [frOf, Act.put]
          go_wp2_with fail
          refine (toPrg _ _ _ _ _ _ _ _ hs0 hN0 (r0.next (HX.below hS))).mono ?_
          rintro e W' ⟨gN, SgN, rfl, _, lgN, pgN, _, ygN, hb⟩
          go_wp2_with fail
          first | exact ⟨trivial, ⟨_, _, rfl, lgN, pgN, ygN⟩, hb, HX.next hb hS⟩ | exact ⟨⟨_, _, rfl, lgN, pgN, ygN⟩, hb, HX.next hb hS⟩
        · have k0 : vals 0 = .agg #[.slice (some ⟨X4, 0, none⟩) m0 m0] := hφ 0 (hd 0 (by decide))
          obtain ⟨g2, S2, k2, l2, q2, y2⟩ : PrgX P0 m0 (vals 2) W := hφ 2 (hd 2 (by decide))
          refine wpAt_of rfl rfl ?_
          simp only [frOf, Act.put]
          go_wp2_with fail
          refine (eqPrg _ _ _ _ _ _ _ hs0 hN0 ⟨(Nat.lt_of_lt_of_le lX4 (HX.beh hS).size), l2⟩ (pX4.next (HX.beh hS)) q2 yX4 y2).mono ?_
          rintro e W' ⟨rfl, hb⟩
          go_wp2_with fail
          first | exact ⟨trivial, rfl, hb, HX.next hb hS⟩ | exact ⟨rfl, hb, HX.next hb hS⟩
        · have k3 : vals 3 = .bool true := hφ 3 (hd 3 (by decide))
          refine wpAt_of rfl rfl ?_
          simp only [frOf, Act.put]
          go_wp2_with fail
          first | exact ⟨trivial, rfl, Below.refl _ _, hS⟩ | exact ⟨rfl, Below.refl _ _, hS⟩
      · intro L vals v7 hall hφ hS
        have k0 : vals 0 = .agg #[.slice (some ⟨X4, 0, none⟩) m0 m0] := hφ 0 (by decide)
        have k1 : vals 1 = .agg #[.slice a0 m0 cap0] := hφ 1 (by decide)
        have k3 : vals 3 = .bool true := hφ 3 (by decide)
        have k4 : vals 4 = .bool false := hφ 4 (by decide)
        simp only [frOf, Act.put, List.setIfInBounds_toArray, List.set_cons_succ, List.set_cons_zero, k0, k1, k3, k4]
        clear k0 k1 k3 k4 hall hφ hS0
        have H := hS.1
        replace pX4 := pX4.next hS.2
        replace lX4 := Nat.lt_of_lt_of_le lX4 (Below.size hS.2)
        replace pX5 := pX5.next hS.2
        replace lX5 := Nat.lt_of_lt_of_le lX5 (Below.size hS.2)
        clear hS
        have hS0 : HX w v7 L5 v7.drew := ⟨HeldL.drew H, (Below.refl _ v7).drew⟩
        clear H
        go_wp2_with fail
        refine region_inv3 [(0, 46), (1, 47), (2, 48), (3, 49), (4, 50)]
          (fun j v W => match j with
            | 0 => Is (.agg #[.bool on2, .slice (some ⟨X5, 0, none⟩) n2 n2, .int .i64 x2, .int .i64 y2]) v
            | 1 => Is (.agg #[.bool on2, .slice a2 n2 cap2, .int .i64 x2, .int .i64 y2]) v
            | 2 => AbsV on2 n2 lo2 hi2 x2 y2 v W
            | 3 => Is (.bool true) v
            | 4 => Is (.bool false) v
            | _ => True)
          (fun _ W => HX w v7 L5 W) TX
          (by kernel_rfl) (by kernel_rfl) (by kernel_rfl) (by kernel_rfl) (by kernel_rfl) rfl hS0 ?_ ?_ ?_
        · intro i j v W W' hji hφ hT
          match j, hji, hφ with
          | 0, _, hφ => exact hφ
          | 1, _, hφ => exact hφ
          | 2, _, hφ => exact hφ.next hT
          | 3, _, hφ => exact hφ
          | 4, _, hφ => exact hφ
          | _ + 5, _, _ => trivial
        · intro i L vals W hi' hφ hS hL hd
          have hiz : i < 5 := hi'
          clear hi'
          rcases (show i = 0 ∨ i = 1 ∨ i = 2 ∨ i = 3 ∨ i = 4 by omega) with rfl | rfl | rfl | rfl | rfl
          · have c0 := hS.cell mX5 (i := 0) rfl
            have c1 := hS.cell mX5 (i := 1) rfl
            have c2 := hS.cell mX5 (i := 2) rfl
            have c3 := hS.cell mX5 (i := 3) rfl
            dsimp only at c0 c1 c2 c3
            refine wpAt_of rfl rfl ?_
            simp only [frOf, Act.put]
            go_wp2_with fail
            first | exact ⟨trivial, rfl, Below.refl _ _, hS⟩ | exact ⟨rfl, Below.refl _ _, hS⟩
          · have c0 := hS.cell mb2 (i := 0) rfl
            have c1 := hS.cell mb2 (i := 1) rfl
            have c2 := hS.cell mb2 (i := 2) rfl
            have c3 := hS.cell mb2 (i := 3) rfl
            dsimp only at c0 c1 c2 c3
            refine wpAt_of rfl rfl ?_
            simp only [frOf, Act.put]
            go_wp2_with fail
            first | exact ⟨trivial, rfl, Below.refl _ _, hS⟩ | exact ⟨rfl, Below.refl _ _, hS⟩
          · have k1 : vals 1 = .agg #[.bool on2, .slice a2 n2 cap2, .int .i64 x2, .int .i64 y2] := hφ 1 (hd 1 (by decide))
            refine wpAt_of rfl rfl ?_
            simp only [frOf, Act.put]
            go_wp2_with fail
            refine (toAbs _ _ _ _ _ _ _ _ _ _ _ hs2 (r2.next (HX.below hS))).mono ?_
            rintro e W' ⟨gN, rfl, _, lgN, pgN, _, hb⟩
            go_wp2_with fail
            first | exact ⟨trivial, ⟨_, rfl, lgN, pgN⟩, hb, HX.next hb hS⟩ | exact ⟨⟨_, rfl, lgN, pgN⟩, hb, HX.next hb hS⟩
          · have k0 : vals 0 = .agg #[.bool on2, .slice (some ⟨X5, 0, none⟩) n2 n2, .int .i64 x2, .int .i64 y2] := hφ 0 (hd 0 (by decide))
            obtain ⟨g2, k2, l2, q2⟩ : AbsV on2 n2 lo2 hi2 x2 y2 (vals 2) W := hφ 2 (hd 2 (by decide))
            refine wpAt_of rfl rfl ?_
            simp only [frOf, Act.put]
            go_wp2_with fail
            refine (eqAbs _ _ _ _ _ _ _ _ _ hs2 (pX5.next (HX.beh hS)) q2).mono ?_
            rintro e W' ⟨rfl, hb⟩
            go_wp2_with fail
            first | exact ⟨trivial, rfl, hb, HX.next hb hS⟩ | exact ⟨rfl, hb, HX.next hb hS⟩
          · have k3 : vals 3 = .bool true := hφ 3 (hd 3 (by decide))
            refine wpAt_of rfl rfl ?_
            simp only [frOf, Act.put]
            go_wp2_with fail
            first | exact ⟨trivial, rfl, Below.refl _ _, hS⟩ | exact ⟨rfl, Below.refl _ _, hS⟩
        · intro L vals v8 hall hφ hS
          have k0 : vals 0 = .agg #[.bool on2, .slice (some ⟨X5, 0, none⟩) n2 n2, .int .i64 x2, .int .i64 y2] := hφ 0 (by decide)
          have k1 : vals 1 = .agg #[.bool on2, .slice a2 n2 cap2, .int .i64 x2, .int .i64 y2] := hφ 1 (by decide)
          have k3 : vals 3 = .bool true := hφ 3 (by decide)
          have k4 : vals 4 = .bool false := hφ 4 (by decide)
          simp only [frOf, Act.put, List.setIfInBounds_toArray, List.set_cons_succ, List.set_cons_zero, k0, k1, k3, k4]
          clear k0 k1 k3 k4 hall hφ hS0
          have H := hS.1
          replace pX4 := pX4.next hS.2
          replace lX4 := Nat.lt_of_lt_of_le lX4 (Below.size hS.2)
          replace pX5 := pX5.next hS.2
          replace lX5 := Nat.lt_of_lt_of_le lX5 (Below.size hS.2)
          clear hS
          go_wp2_with fail
          go_ret
          exact ⟨rfl, H.below⟩

set_option maxRecDepth 100000 in
theorem contract (H : Type) (enc : TypeId × Value → H) (W : World) (base : Nat) (args : Array Value) (ds gs : List (DataW H)) (before : List MemPlace)
    (hval : ∀ (j : Nat) t v, Try.f7.params[j]? = some t → args[j]? = some v → Value.okWide Try.prog W .any base t v)
    (hW : DataW.Whole enc Try.prog Try.f7.params.toList Rows.fnExactAbsFailsSpec.vars false W args.toList ds gs before) :
    Calls Try.prog 7 args W fun e W' => ∃ v, e = .returned v ∧ Rows.fnExactAbsFailsSpec.post enc Try.prog Try.f7 false true false false W args v W' := by
  have hW' := hW
  obtain ⟨p, q, hA0, hV, rfl, hfz, hnd⟩ := hW
  have hA : DataW.TrodAll enc Try.prog W 0 (fun _ => true) true Try.f7.params.toList args.toList ds p := hA0
  rw [Try.params7] at hA hval
  obtain ⟨v0, vs0, d0, ds0, p0, q0, hargs, rfl, rfl, h0, r0'⟩ := trodAll_cons hA
  obtain ⟨v1, vs1, d1, ds1, p1, q1, rfl, rfl, rfl, h1, r1'⟩ := trodAll_cons r0'
  obtain ⟨v2, vs2, d2, ds2, p2, q2, rfl, rfl, rfl, h2, r2'⟩ := trodAll_cons r1'
  obtain ⟨rfl, rfl, rfl⟩ := trodAll_nil r2'
  obtain rfl : args = #[v0, v1, v2] := by cases args; simp_all
  obtain ⟨rfl, rfl⟩ := trodVars_none hV
  have k0 := h0
  have lt0 : ∀ x ∈ p0, x.block < W.heap.size := by obtain ⟨m, hm⟩ := k0; exact DataW.trod_lt m _ _ _ hm
  obtain ⟨a0, m0, cap0, rfl, hm0, hn0, r0⟩ := open_prog (hval 0 24 v0 rfl rfl) h0
  have k1 := h1
  obtain ⟨z0_1, z1_1, z2_1, z3_1, z4_1, z5_1, z6_1, z7_1, rfl, rfl, rfl, w0_1, w1_1, w2_1, w3_1, w4_1, w5_1, w6_1, w7_1⟩ := open_ins (hval 1 64 v1 rfl rfl) h1
  have k2 := h2
  have lt2 : ∀ x ∈ p2, x.block < W.heap.size := by obtain ⟨m, hm⟩ := k2; exact DataW.trod_lt m _ _ _ hm
  obtain ⟨on2, x2, y2, a2, n2, cap2, rfl, hn2, r2⟩ := open_abs (hval 2 69 v2 rfl rfl) h2
  clear hA0
  refine (walk a0 m0 cap0 _ _ _ _ hm0 hn0 z0_1 z1_1 z2_1 z3_1 z4_1 z5_1 z6_1 z7_1 w0_1 w1_1 w2_1 w3_1 w4_1 w5_1 w6_1 w7_1 on2 x2 y2 a2 _ _ n2 cap2 _ _ hn2 W r0 r2).mono fun e W' ⟨he, bel⟩ => ?_
  subst he
  exact ⟨_, rfl, _, _, _, [], _, [], hW', trodAll_mk1 (shut_bool Try.underlying4 _), (trodAll_cons_mk (Below.trod laidOut (by kernel_rfl) (of_decide_eq_true (by kernel_rfl)) k0 bel lt0) (trodAll_cons_mk (Below.trod laidOut (by kernel_rfl) (of_decide_eq_true (by kernel_rfl)) k1 bel (by simp)) (trodAll_cons_mk (Below.trod laidOut (by kernel_rfl) (of_decide_eq_true (by kernel_rfl)) k2 bel lt2) trodAll_mk0))), rfl, bel.frame _, fun h => by cases h⟩

set_option maxRecDepth 100000 in
theorem lifted (os : Os) (started : os.Started) (H : Type) (enc : TypeId × Value → H) :
    ReturnsInHanded {} Try.checked os 7 .any (Rows.fnExactAbsFailsSpec.pre6 enc Try.prog Try.f7 Rows.fnExactAbsFailsRow.domain false) (Rows.fnExactAbsFailsSpec.post enc Try.prog Try.f7 false true false false) := by
  refine returnsInHanded_of_change (C := Try.checked) own started (by kernel_rfl) Try.func7
    (ChangeSpec.witness6 (enc := enc) (C := Try.checked) false ⟨#[], #[.agg #[.slice none 0 0], .agg #[.int .i64 0, .int .i64 0, .int .i64 0, .int .i64 0, .int .i64 0, .int .i64 0, .int .i64 0, .int .i64 0], .agg #[.bool false, .slice none 0 0, .int .i64 0, .int .i64 0]], []⟩ 8 (by kernel_rfl) (by kernel_rfl) (by kernel_rfl) (by kernel_rfl)) ?_
  intro W base args ds gs before hval hW _ _
  exact contract H enc W base args ds gs before hval hW

theorem proved : Rows.FnExactAbsFailsSaid :=
  OpenClaim.holds_of_wide 7 Try.f7 rfl rfl rfl rfl rfl rfl rfl ⟨rfl, rfl, rfl, rfl, rfl⟩ rfl rfl rfl rfl rfl (by kernel_rfl) Try.func7 (by kernel_rfl)
    (of_decide_eq_true (by kernel_rfl)) (by unfold Func.isWrapper; first | (rw [if_pos (by decide +kernel)]; kernel_rfl) | (rw [if_neg (by decide +kernel)]; exact ⟨rfl, rfl⟩))
    (fun os started H enc _ => lifted os started H enc)
#print axioms proved
end Go.Proofs.Ytdpkbbbfnmneiaa.fnExactAbsFails
