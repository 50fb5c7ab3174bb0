/- Whatever is handed in, the law FnExactAbsHas returns true: the program's AbsHas answers as the model's, and turns nothing of its arguments. No condition. Of what has more than 1048576 entries the law itself answers true. -/
import Derived.Test.YtddcojeghdnhnaaOpenAbs
import Derived.Test.YtddcojeghdnhnaaExLaw
import Derived.Test.YtddcojeghdnhnaaAbsHas
import Derived.Test.YtddcojeghdnhnaaAbsX
import Derived.Test.YtddcojeghdnhnaaRunEq
import Derived.Deep.RegionHeld3
import Derived.Deep.DeepCutAuto
import Derived.WalkKit
import Derived.ProofKit
import Derived.OpenShut
import Derived.ShutString
import Derived.ChangeOld
import Derived.Below
namespace Go.Proofs.Ytddcojeghdnhnaa.fnExactAbsHas
open Go.ChangeShapes Go.WideShapes Go.ChangeAt Go.RowKit
open Go.ChangeMaps (open_string shut_string)
set_option linter.unusedVariables false

theorem own : ownKnob Try.prog.godebug = none := by kernel_rfl
theorem laidOut : laidOutB Try.prog = true := by kernel_rfl


set_option maxRecDepth 10000 in
set_option maxHeartbeats 40000000 in
theorem walk (on0 : Bool) (x0 y0 : Int) (a0 : Option Addr) (b0 off0 n0 cap0 : Nat) (lo0 hi0 : Nat → Int) (hn0 : n0 ≤ maxLen) (a1 : Option Addr) (b1 off1 n1 cap1 : Nat) (z1 : Nat → Int) (hn1 : n1 ≤ maxLen) (a2 : Option Addr) (b2 off2 n2 cap2 : Nat) (z2 : Nat → Int) (hn2 : n2 ≤ maxLen) (w : World) (r0 : BndsAt a0 b0 off0 n0 lo0 hi0 w) (r1 : IntsAt a1 b1 off1 n1 z1 w) (r2 : IntsAt a2 b2 off2 n2 z2 w) :
    Calls Try.prog 7 #[.agg #[.bool on0, .slice a0 n0 cap0, .int .i64 x0, .int .i64 y0], .slice a1 n1 cap1, .slice a2 n2 cap2] w fun e w' => e = .returned (.bool true) ∧ Below w.heap.size w w' := by
  have H : HeldL w [(w.heap.size, [Value.bool on0, .slice a0 n0 cap0, .int .i64 x0, .int .i64 y0])] (w.alloc (.cells #[.bool on0, .slice a0 n0 cap0, .int .i64 x0, .int .i64 y0] 26)) := by
    exact HeldL.newL (vs := [Value.bool on0, .slice a0 n0 cap0, .int .i64 x0, .int .i64 y0]) (HeldL.nil w)
  obtain ⟨Lb, hLb⟩ : ∃ L, L = [(w.heap.size, [Value.bool on0, .slice a0 n0 cap0, .int .i64 x0, .int .i64 y0])] := ⟨_, rfl⟩
  have m0 : (w.heap.size, [Value.bool on0, .slice a0 n0 cap0, .int .i64 x0, .int .i64 y0]) ∈ Lb := by rw [hLb]; simp
  rw [← hLb] at H
  clear hLb
  rcases Nat.lt_or_ge 1048576 n1 with hs1 | hs1
  · have hq1 : (1048576 : Int) < (n1 : Int) := by omega
    go_enter Try.func7, Try.ntmps7
    go_wp2_with fail
    go_ret
    exact ⟨rfl, H.below⟩
  have hq1 : ¬ (1048576 : Int) < (n1 : Int) := by omega
  rcases Nat.lt_or_ge 1048576 n2 with hs2 | hs2
  · have hq2 : (1048576 : Int) < (n2 : Int) := by omega
    go_enter Try.func7, Try.ntmps7
    go_wp2_with fail
    go_ret
    exact ⟨rfl, H.below⟩
  have hq2 : ¬ (1048576 : Int) < (n2 : Int) := by omega
  go_enter Try.func7, Try.ntmps7
  go_wp2_with fail
  refine (szAbs _ _ _ _ _ _ 1048576 _ (by omega) hn0).mono ?_
  rintro e w1 ⟨u1, rfl, hu, hb⟩
  replace H := H.next hb
  clear hb
  rcases hu with rfl | hu
  · go_wp2_with fail
    go_ret
    exact ⟨rfl, H.below⟩
  have hs0 : n0 ≤ 1048576 := by omega
  have hl1 : 0 ≤ u1 ∧ u1 ≤ 1048576 := by omega
  have hg1 : ¬ u1 < 0 := by omega
  clear hu
  obtain ⟨d, hd0'⟩ : ∃ d, absHas on0 n0 lo0 hi0 x0 y0 n1 z1 n2 z2 = d := ⟨_, rfl⟩
  have hd0 : Hid (absHas on0 n0 lo0 hi0 x0 y0 n1 z1 n2 z2 = d) := hd0'
  clear hd0'
  have c0 := H.cell m0 (i := 0) rfl
  have c1 := H.cell m0 (i := 1) rfl
  have c2 := H.cell m0 (i := 2) rfl
  have c3 := H.cell m0 (i := 3) rfl
  dsimp only at c0 c1 c2 c3
  go_wp2_with fail
  refine (toAbs _ _ _ _ _ _ _ _ _ _ _ hs0 (r0.next (HeldL.below H))).mono ?_
  rintro e w2 ⟨X2, rfl, _, lX2, pX2, _, hb⟩
  replace H := H.next hb
  clear c0 c1 c2 c3
  clear hb
  go_wp2_with fail
  refine (toInts _ _ _ _ _ _ _ hs1 (r1.next (HeldL.below H))).mono ?_
  rintro e w3 ⟨X3, rfl, _, lX3, pX3, hb⟩
  replace H := H.next hb
  replace pX2 := pX2.next hb
  replace lX2 := Nat.lt_of_lt_of_le lX2 (Below.size hb)
  clear hb
  go_wp2_with fail
  refine (toInts _ _ _ _ _ _ _ hs2 (r2.next (HeldL.below H))).mono ?_
  rintro e w4 ⟨X4, rfl, _, lX4, pX4, hb⟩
  replace H := H.next hb
  replace pX2 := pX2.next hb
  replace lX2 := Nat.lt_of_lt_of_le lX2 (Below.size hb)
  replace pX3 := pX3.next hb
  replace lX3 := Nat.lt_of_lt_of_le lX3 (Below.size hb)
  clear hb
  go_wp2_with fail
  refine (absHasS _ _ _ _ _ _ _ _ _ _ _ _ _ _ _ _ _ _ _ _ _ _ _ pX2 pX3 pX4).mono ?_
  rintro e w5 ⟨rfl, hb⟩
  rw [hd0.out]
  clear pX2 lX2 pX3 lX3 pX4 lX4
  replace H := H.next hb
  clear hb
  have c0 := H.cell m0 (i := 0) rfl
  have c1 := H.cell m0 (i := 1) rfl
  have c2 := H.cell m0 (i := 2) rfl
  have c3 := H.cell m0 (i := 3) rfl
  dsimp only at c0 c1 c2 c3
  go_wp2_with fail
  refine (toAbs _ _ _ _ _ _ _ _ _ _ _ hs0 (r0.next (HeldL.below H))).mono ?_
  rintro e w6 ⟨X6, rfl, _, lX6, pX6, _, hb⟩
  have ka : Below w6.heap.size w6 (w6.alloc (.cells #[.bool on0, .slice (some ⟨X6, 0, none⟩) n0 n0, .int .i64 x0, .int .i64 y0] 32)) := (Below.refl _ _).alloc (Nat.le_refl _) _
  replace H := HeldL.newL (vs := [Value.bool on0, .slice (some ⟨X6, 0, none⟩) n0 n0, .int .i64 x0, .int .i64 y0]) (t := 32) (HeldL.next hb H)
  replace hb := below_tr hb ka
  replace pX6 := pX6.next ka
  replace lX6 := Nat.lt_of_lt_of_le lX6 (Below.size ka)
  clear c0 c1 c2 c3
  clear hb ka
  obtain ⟨B6, hX⟩ : ∃ X, X = w6.heap.size := ⟨_, rfl⟩
  rw [← hX] at H
  have hXS6 : Hid (B6 = w6.heap.size) := hX
  clear hX
  obtain ⟨L6, hL⟩ : ∃ L, L = (B6, [Value.bool on0, .slice (some ⟨X6, 0, none⟩) n0 n0, .int .i64 x0, .int .i64 y0]) :: Lb := ⟨_, rfl⟩
  rw [← hL] at H
  have mX6 : (B6, [Value.bool on0, .slice (some ⟨X6, 0, none⟩) n0 n0, .int .i64 x0, .int .i64 y0]) ∈ L6 := by rw [hL]; simp
  replace m0 := List.mem_cons_of_mem (B6, [Value.bool on0, .slice (some ⟨X6, 0, none⟩) n0 n0, .int .i64 x0, .int .i64 y0]) m0
  rw [← hL] at m0
  clear hL
  go_wp2_with fail
  rw [← hXS6.out]
  clear hXS6
  refine (toInts _ _ _ _ _ _ _ hs1 (r1.next (HeldL.below H))).mono ?_
  rintro e w7 ⟨X7, rfl, _, lX7, pX7, hb⟩
  replace H := H.next hb
  replace pX6 := pX6.next hb
  replace lX6 := Nat.lt_of_lt_of_le lX6 (Below.size hb)
  clear hb
  go_wp2_with fail
  refine (toInts _ _ _ _ _ _ _ hs2 (r2.next (HeldL.below H))).mono ?_
  rintro e w8 ⟨X8, rfl, _, lX8, pX8, hb⟩
  replace H := H.next hb
  replace pX6 := pX6.next hb
  replace lX6 := Nat.lt_of_lt_of_le lX6 (Below.size hb)
  replace pX7 := pX7.next hb
  replace lX7 := Nat.lt_of_lt_of_le lX7 (Below.size hb)
  clear hb
  have c0 := H.cell mX6 (i := 0) rfl
  have c1 := H.cell mX6 (i := 1) rfl
  have c2 := H.cell mX6 (i := 2) rfl
  have c3 := H.cell mX6 (i := 3) rfl
  dsimp only at c0 c1 c2 c3
  go_wp2_with fail
  refine (absHasI _ _ _ _ _ _ _ _ _ _ _ _ _ _ _ _ _ _ _ _ _ _ _ hs0 hs1 hs2 pX6 pX7 pX8).mono ?_
  rintro e w9 ⟨rfl, hb⟩
  rw [hd0.out]
  replace H := H.next hb
  replace pX6 := pX6.next hb
  replace lX6 := Nat.lt_of_lt_of_le lX6 (Below.size hb)
  replace pX7 := pX7.next hb
  replace lX7 := Nat.lt_of_lt_of_le lX7 (Below.size hb)
  replace pX8 := pX8.next hb
  replace lX8 := Nat.lt_of_lt_of_le lX8 (Below.size hb)
  clear c0 c1 c2 c3
  clear hb
  have hS0 : HX w w9 L6 w9.drew := ⟨HeldL.drew H, (Below.refl _ w9).drew⟩
  clear H
  go_wp2_with fail
  refine region_inv3 [(0, 44), (1, 45), (2, 46), (3, 47), (4, 48)]
    (fun j v W => match j with
      | 0 => Is (.agg #[.bool on0, .slice (some ⟨X6, 0, none⟩) n0 n0, .int .i64 x0, .int .i64 y0]) v
      | 1 => Is (.agg #[.bool on0, .slice a0 n0 cap0, .int .i64 x0, .int .i64 y0]) v
      | 2 => AbsV on0 n0 lo0 hi0 x0 y0 v W
      | 3 => Is (.bool true) v
      | 4 => Is (.bool false) v
      | _ => True)
    (fun _ W => HX w w9 L6 W) TX
    (by kernel_rfl) (by kernel_rfl) (by kernel_rfl) (by kernel_rfl) (by kernel_rfl) rfl hS0 ?_ ?_ ?_
  · intro i j v W W' hji hφ hT
    match j, hji, hφ with
    | 0, _, hφ => exact hφ
    | 1, _, hφ => exact hφ
    | 2, _, hφ => exact hφ.next hT
    | 3, _, hφ => exact hφ
    | 4, _, hφ => exact hφ
    | _ + 5, _, _ => trivial
  · intro i L vals W hi' hφ hS hL hd
    have hi2 : i < 5 := hi'
    clear hi'
    rcases (show i = 0 ∨ i = 1 ∨ i = 2 ∨ i = 3 ∨ i = 4 by omega) with rfl | rfl | rfl | rfl | rfl
    · have c0 := hS.cell mX6 (i := 0) rfl
      have c1 := hS.cell mX6 (i := 1) rfl
      have c2 := hS.cell mX6 (i := 2) rfl
      have c3 := hS.cell mX6 (i := 3) rfl
      dsimp only at c0 c1 c2 c3
      refine wpAt_of rfl rfl ?_
      simp only [frOf, Act.put]
      go_wp2_with fail
      first | exact ⟨trivial, rfl, Below.refl _ _, hS⟩ | exact ⟨rfl, Below.refl _ _, hS⟩
    · have c0 := hS.cell m0 (i := 0) rfl
      have c1 := hS.cell m0 (i := 1) rfl
      have c2 := hS.cell m0 (i := 2) rfl
      have c3 := hS.cell m0 (i := 3) rfl
      dsimp only at c0 c1 c2 c3
      refine wpAt_of rfl rfl ?_
      simp only [frOf, Act.put]
      go_wp2_with fail
      first | exact ⟨trivial, rfl, Below.refl _ _, hS⟩ | exact ⟨rfl, Below.refl _ _, hS⟩
    · have k1 : vals 1 = .agg #[.bool on0, .slice a0 n0 cap0, .int .i64 x0, .int .i64 y0] := hφ 1 (hd 1 (by decide))
      refine wpAt_of rfl rfl ?_
      simp only [frOf, Act.put]
      go_wp2_with fail
      refine (toAbs _ _ _ _ _ _ _ _ _ _ _ hs0 (r0.next (HX.below hS))).mono ?_
      rintro e W' ⟨gN, rfl, _, lgN, pgN, _, hb⟩
      go_wp2_with fail
      first | exact ⟨trivial, ⟨_, rfl, lgN, pgN⟩, hb, HX.next hb hS⟩ | exact ⟨⟨_, rfl, lgN, pgN⟩, hb, HX.next hb hS⟩
    · have k0 : vals 0 = .agg #[.bool on0, .slice (some ⟨X6, 0, none⟩) n0 n0, .int .i64 x0, .int .i64 y0] := hφ 0 (hd 0 (by decide))
      obtain ⟨g2, k2, l2, q2⟩ : AbsV on0 n0 lo0 hi0 x0 y0 (vals 2) W := hφ 2 (hd 2 (by decide))
      refine wpAt_of rfl rfl ?_
      simp only [frOf, Act.put]
      go_wp2_with fail
      refine (eqAbs _ _ _ _ _ _ _ _ _ hs0 (pX6.next (HX.beh hS)) q2).mono ?_
      rintro e W' ⟨rfl, hb⟩
      go_wp2_with fail
      first | exact ⟨trivial, rfl, hb, HX.next hb hS⟩ | exact ⟨rfl, hb, HX.next hb hS⟩
    · have k3 : vals 3 = .bool true := hφ 3 (hd 3 (by decide))
      refine wpAt_of rfl rfl ?_
      simp only [frOf, Act.put]
      go_wp2_with fail
      first | exact ⟨trivial, rfl, Below.refl _ _, hS⟩ | exact ⟨rfl, Below.refl _ _, hS⟩
  · intro L vals v10 hall hφ hS
    have k0 : vals 0 = .agg #[.bool on0, .slice (some ⟨X6, 0, none⟩) n0 n0, .int .i64 x0, .int .i64 y0] := hφ 0 (by decide)
    have k1 : vals 1 = .agg #[.bool on0, .slice a0 n0 cap0, .int .i64 x0, .int .i64 y0] := hφ 1 (by decide)
    have k3 : vals 3 = .bool true := hφ 3 (by decide)
    have k4 : vals 4 = .bool false := hφ 4 (by decide)
    simp only [frOf, Act.put, List.setIfInBounds_toArray, List.set_cons_succ, List.set_cons_zero, k0, k1, k3, k4]
    clear k0 k1 k3 k4 hall hφ hS0
    have H := hS.1
    replace pX6 := pX6.next hS.2
    replace lX6 := Nat.lt_of_lt_of_le lX6 (Below.size hS.2)
    replace pX7 := pX7.next hS.2
    replace lX7 := Nat.lt_of_lt_of_le lX7 (Below.size hS.2)
    replace pX8 := pX8.next hS.2
    replace lX8 := Nat.lt_of_lt_of_le lX8 (Below.size hS.2)
    clear hS
    go_wp2_with fail
    refine (toInts _ _ _ _ _ _ _ hs1 (r1.next (HeldL.below H))).mono ?_
    rintro e w11 ⟨X11, rfl, _, lX11, pX11, hb⟩
    replace H := H.next hb
    replace pX6 := pX6.next hb
    replace lX6 := Nat.lt_of_lt_of_le lX6 (Below.size hb)
    replace pX7 := pX7.next hb
    replace lX7 := Nat.lt_of_lt_of_le lX7 (Below.size hb)
    replace pX8 := pX8.next hb
    replace lX8 := Nat.lt_of_lt_of_le lX8 (Below.size hb)
    clear hb
    go_wp2_with fail
    refine (eqIntsA _ _ _ _ _ hs1 pX7 pX11).mono ?_
    rintro e w12 ⟨rfl, hb⟩
    clear pX11 lX11
    replace H := H.next hb
    replace pX6 := pX6.next hb
    replace lX6 := Nat.lt_of_lt_of_le lX6 (Below.size hb)
    replace pX7 := pX7.next hb
    replace lX7 := Nat.lt_of_lt_of_le lX7 (Below.size hb)
    replace pX8 := pX8.next hb
    replace lX8 := Nat.lt_of_lt_of_le lX8 (Below.size hb)
    clear hb
    go_wp2_with fail
    refine (toInts _ _ _ _ _ _ _ hs2 (r2.next (HeldL.below H))).mono ?_
    rintro e w13 ⟨X13, rfl, _, lX13, pX13, hb⟩
    replace H := H.next hb
    replace pX6 := pX6.next hb
    replace lX6 := Nat.lt_of_lt_of_le lX6 (Below.size hb)
    replace pX7 := pX7.next hb
    replace lX7 := Nat.lt_of_lt_of_le lX7 (Below.size hb)
    replace pX8 := pX8.next hb
    replace lX8 := Nat.lt_of_lt_of_le lX8 (Below.size hb)
    clear hb
    go_wp2_with fail
    refine (eqIntsA _ _ _ _ _ hs2 pX8 pX13).mono ?_
    rintro e w14 ⟨rfl, hb⟩
    clear pX13 lX13
    replace H := H.next hb
    replace pX6 := pX6.next hb
    replace lX6 := Nat.lt_of_lt_of_le lX6 (Below.size hb)
    replace pX7 := pX7.next hb
    replace lX7 := Nat.lt_of_lt_of_le lX7 (Below.size hb)
    replace pX8 := pX8.next hb
    replace lX8 := Nat.lt_of_lt_of_le lX8 (Below.size hb)
    clear hb
    go_wp2_with fail
    go_ret
    exact ⟨rfl, H.below⟩

set_option maxRecDepth 100000 in
theorem contract (H : Type) (enc : TypeId × Value → H) (W : World) (base : Nat) (args : Array Value) (ds gs : List (DataW H)) (before : List MemPlace)
    (hval : ∀ (j : Nat) t v, Try.f7.params[j]? = some t → args[j]? = some v → Value.okWide Try.prog W .any base t v)
    (hW : DataW.Whole enc Try.prog Try.f7.params.toList Rows.fnExactAbsHasSpec.vars false W args.toList ds gs before) :
    Calls Try.prog 7 args W fun e W' => ∃ v, e = .returned v ∧ Rows.fnExactAbsHasSpec.post enc Try.prog Try.f7 false true false false W args v W' := by
  have hW' := hW
  obtain ⟨p, q, hA0, hV, rfl, hfz, hnd⟩ := hW
  have hA : DataW.TrodAll enc Try.prog W 0 (fun _ => true) true Try.f7.params.toList args.toList ds p := hA0
  rw [Try.params7] at hA hval
  obtain ⟨v0, vs0, d0, ds0, p0, q0, hargs, rfl, rfl, h0, r0'⟩ := trodAll_cons hA
  obtain ⟨v1, vs1, d1, ds1, p1, q1, rfl, rfl, rfl, h1, r1'⟩ := trodAll_cons r0'
  obtain ⟨v2, vs2, d2, ds2, p2, q2, rfl, rfl, rfl, h2, r2'⟩ := trodAll_cons r1'
  obtain ⟨rfl, rfl, rfl⟩ := trodAll_nil r2'
  obtain rfl : args = #[v0, v1, v2] := by cases args; simp_all
  obtain ⟨rfl, rfl⟩ := trodVars_none hV
  have k0 := h0
  have lt0 : ∀ x ∈ p0, x.block < W.heap.size := by obtain ⟨m, hm⟩ := k0; exact DataW.trod_lt m _ _ _ hm
  obtain ⟨on0, x0, y0, a0, n0, cap0, rfl, hn0, r0⟩ := open_abs (hval 0 26 v0 rfl rfl) h0
  have k1 := h1
  have lt1 : ∀ x ∈ p1, x.block < W.heap.size := by obtain ⟨m, hm⟩ := k1; exact DataW.trod_lt m _ _ _ hm
  obtain ⟨a1, n1, cap1, rfl⟩ := okWide_slice Try.underlying51 (hval 1 51 v1 rfl rfl)
  obtain ⟨hn1, r1⟩ : n1 ≤ maxLen ∧ IntsAt a1 (blk a1) (ofs a1) n1 (numsAt W (blk a1) (ofs a1)) W := by
    obtain ⟨fq, hq⟩ := h1
    obtain ⟨a', n', cap', e, h1, h2⟩ := open_nums (v := .slice a1 n1 cap1) (by simpa [Value.cells] using hq)
    injection e with e1 e2 e3
    subst e1 e2 e3
    exact ⟨h1, h2⟩
  have k2 := h2
  have lt2 : ∀ x ∈ p2, x.block < W.heap.size := by obtain ⟨m, hm⟩ := k2; exact DataW.trod_lt m _ _ _ hm
  obtain ⟨a2, n2, cap2, rfl⟩ := okWide_slice Try.underlying51 (hval 2 51 v2 rfl rfl)
  obtain ⟨hn2, r2⟩ : n2 ≤ maxLen ∧ IntsAt a2 (blk a2) (ofs a2) n2 (numsAt W (blk a2) (ofs a2)) W := by
    obtain ⟨fq, hq⟩ := h2
    obtain ⟨a', n', cap', e, h1, h2⟩ := open_nums (v := .slice a2 n2 cap2) (by simpa [Value.cells] using hq)
    injection e with e1 e2 e3
    subst e1 e2 e3
    exact ⟨h1, h2⟩
  clear hA0
  refine (walk on0 x0 y0 a0 _ _ n0 cap0 _ _ hn0 a1 _ _ n1 cap1 _ hn1 a2 _ _ n2 cap2 _ hn2 W r0 r1 r2).mono fun e W' ⟨he, bel⟩ => ?_
  subst he
  exact ⟨_, rfl, _, _, _, [], _, [], hW', trodAll_mk1 (shut_bool Try.underlying4 _), (trodAll_cons_mk (Below.trod laidOut (by kernel_rfl) (of_decide_eq_true (by kernel_rfl)) k0 bel lt0) (trodAll_cons_mk (Below.trod laidOut (by kernel_rfl) (of_decide_eq_true (by kernel_rfl)) k1 bel lt1) (trodAll_cons_mk (Below.trod laidOut (by kernel_rfl) (of_decide_eq_true (by kernel_rfl)) k2 bel lt2) trodAll_mk0))), rfl, bel.frame _, fun h => by cases h⟩

set_option maxRecDepth 100000 in
theorem lifted (os : Os) (started : os.Started) (H : Type) (enc : TypeId × Value → H) :
    ReturnsInHanded {} Try.checked os 7 .any (Rows.fnExactAbsHasSpec.pre6 enc Try.prog Try.f7 Rows.fnExactAbsHasRow.domain false) (Rows.fnExactAbsHasSpec.post enc Try.prog Try.f7 false true false false) := by
  refine returnsInHanded_of_change (C := Try.checked) own started (by kernel_rfl) Try.func7
    (ChangeSpec.witness6 (enc := enc) (C := Try.checked) false ⟨#[], #[.agg #[.bool false, .slice none 0 0, .int .i64 0, .int .i64 0], .slice none 0 0, .slice none 0 0], []⟩ 8 (by kernel_rfl) (by kernel_rfl) (by kernel_rfl) (by kernel_rfl)) ?_
  intro W base args ds gs before hval hW _ _
  exact contract H enc W base args ds gs before hval hW

theorem proved : Rows.FnExactAbsHasSaid :=
  OpenClaim.holds_of_wide 7 Try.f7 rfl rfl rfl rfl rfl rfl rfl ⟨rfl, rfl, rfl, rfl, rfl⟩ rfl rfl rfl rfl rfl (by kernel_rfl) Try.func7 (by kernel_rfl)
    (of_decide_eq_true (by kernel_rfl)) (by unfold Func.isWrapper; first | (rw [if_pos (by decide +kernel)]; kernel_rfl) | (rw [if_neg (by decide +kernel)]; exact ⟨rfl, rfl⟩))
    (fun os started H enc _ => lifted os started H enc)
#print axioms proved
end Go.Proofs.Ytddcojeghdnhnaa.fnExactAbsHas
