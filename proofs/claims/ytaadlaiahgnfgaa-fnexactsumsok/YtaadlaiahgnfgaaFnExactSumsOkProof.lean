/- Whatever is handed in, the law FnExactSumsOk returns true: the program's SumsOk answers as the model's, and turns nothing of its arguments. No condition. Of what has more than 1048576 entries the law itself answers true. -/
import Derived.Test.YtaadlaiahgnfgaaOpenPrg
import Derived.Test.YtaadlaiahgnfgaaSums
import Derived.Test.YtaadlaiahgnfgaaExLaw
import Derived.Test.YtaadlaiahgnfgaaPrgX
import Derived.Deep.RegionHeld3
import Derived.Deep.DeepCutAuto
import Derived.WalkKit
import Derived.ProofKit
import Derived.OpenShut
import Derived.ShutString
import Derived.ChangeOld
import Derived.Below
namespace Go.Proofs.Ytaadlaiahgnfgaa.fnExactSumsOk
open Go.ChangeShapes Go.WideShapes Go.ChangeAt Go.RowKit
open Go.ChangeMaps (open_string shut_string)
set_option linter.unusedVariables false

theorem own : ownKnob Try.prog.godebug = none := by kernel_rfl
theorem laidOut : laidOutB Try.prog = true := by kernel_rfl


set_option maxRecDepth 10000 in
set_option maxHeartbeats 40000000 in
theorem walk (a0 : Option Addr) (m0 cap0 b0 off0 : Nat) (P0 : Nat → Proc) (S0 : Nat → Spot) (hm0 : m0 ≤ maxLen) (hn0 : ∀ i, i < m0 → (P0 i).n ≤ maxLen) (a1 : Option Addr) (b1 off1 n1 cap1 : Nat) (U1 : Nat → Sm) (hn1 : n1 ≤ maxLen) (w : World) (r0 : ProcsAt a0 b0 off0 m0 P0 S0 w) (r1 : SumsAt a1 b1 off1 n1 U1 w) :
    Calls Try.prog 3 #[.agg #[.slice a0 m0 cap0], .slice a1 n1 cap1] w fun e w' => e = .returned (.bool true) ∧ Below w.heap.size w w' := by
  have H : HeldL w [(w.heap.size, [Value.slice a0 m0 cap0])] (w.alloc (.cells #[.slice a0 m0 cap0] 24)) := by
    exact HeldL.newL (vs := [Value.slice a0 m0 cap0]) (HeldL.nil w)
  obtain ⟨Lb, hLb⟩ : ∃ L, L = [(w.heap.size, [Value.slice a0 m0 cap0])] := ⟨_, rfl⟩
  have mb0 : (w.heap.size, [Value.slice a0 m0 cap0]) ∈ Lb := by rw [hLb]; simp
  rw [← hLb] at H
  clear hLb
  go_enter Try.func3, Try.ntmps3
  go_wp2_with fail
  refine (szPrgX _ _ _ _ _ _ _ 1048576 _ (by omega) hm0 (r0.next H.below) hn0).mono ?_
  rintro e w1 ⟨u1, rfl, hu, hb⟩
  replace H := H.next hb
  clear hb
  rcases hu with rfl | hu
  · go_wp2_with fail
    go_ret
    exact ⟨rfl, H.below⟩
  have hs0 : m0 ≤ 1048576 := by omega
  have hN0 : ∀ i, i < m0 → (P0 i).n ≤ 1048576 := fun i hi => by have := sizeTo_le (P := P0) hi; omega
  have hl1 : 0 ≤ u1 ∧ u1 ≤ 1048576 := by omega
  have hg1 : ¬ u1 < 0 := by omega
  clear hu
  go_wp2_with fail
  refine (szSums _ _ _ u1 _ hl1 hn1).mono ?_
  rintro e w2 ⟨u2, rfl, hu, hb⟩
  replace H := H.next hb
  clear hb
  rcases hu with rfl | hu
  · go_wp2_with fail
    go_ret
    exact ⟨rfl, H.below⟩
  have hs1 : n1 ≤ 1048576 := by omega
  have hl2 : 0 ≤ u2 ∧ u2 ≤ 1048576 := by omega
  have hg2 : ¬ u2 < 0 := by omega
  clear hu
  clear hl1 hg1
  obtain ⟨d, hd0'⟩ : ∃ d, sumsOk P0 m0 n1 U1 = d := ⟨_, rfl⟩
  have hd0 : Hid (sumsOk P0 m0 n1 U1 = d) := hd0'
  clear hd0'
  have c0 := H.cell mb0 (i := 0) rfl
  dsimp only at c0
  go_wp2_with fail
  refine (toPrg _ _ _ _ _ _ _ _ hs0 hN0 (r0.next (HeldL.below H))).mono ?_
  rintro e w3 ⟨X3, SX3, rfl, _, lX3, pX3, _, yX3, hb⟩
  replace H := H.next hb
  clear c0
  clear hb
  go_wp2_with fail
  refine (toSums _ _ _ _ _ _ _ hs1 (r1.next (HeldL.below H))).mono ?_
  rintro e w4 ⟨X4, rfl, _, lX4, pX4, hb⟩
  replace H := H.next hb
  replace pX3 := pX3.next hb
  replace lX3 := Nat.lt_of_lt_of_le lX3 (Below.size hb)
  clear hb
  go_wp2_with fail
  refine (sumsOkS _ _ _ _ _ _ _ _ _ _ _ _ _ _ hs0 hN0 hs1 pX3 pX4).mono ?_
  rintro e w5 ⟨rfl, hb⟩
  rw [hd0.out]
  clear pX3 lX3 pX4 lX4
  replace H := H.next hb
  clear hb
  have c0 := H.cell mb0 (i := 0) rfl
  dsimp only at c0
  go_wp2_with fail
  refine (toPrg _ _ _ _ _ _ _ _ hs0 hN0 (r0.next (HeldL.below H))).mono ?_
  rintro e w6 ⟨X6, SX6, rfl, _, lX6, pX6, _, yX6, hb⟩
  have ka : Below w6.heap.size w6 (w6.alloc (.cells #[.slice (some ⟨X6, 0, none⟩) m0 m0] 31)) := (Below.refl _ _).alloc (Nat.le_refl _) _
  replace H := HeldL.newL (vs := [Value.slice (some ⟨X6, 0, none⟩) m0 m0]) (t := 31) (HeldL.next hb H)
  replace hb := below_tr hb ka
  replace pX6 := pX6.next ka
  replace lX6 := Nat.lt_of_lt_of_le lX6 (Below.size ka)
  clear c0
  clear hb ka
  obtain ⟨B6, hX⟩ : ∃ X, X = w6.heap.size := ⟨_, rfl⟩
  rw [← hX] at H
  have hXS6 : Hid (B6 = w6.heap.size) := hX
  clear hX
  obtain ⟨L6, hL⟩ : ∃ L, L = (B6, [Value.slice (some ⟨X6, 0, none⟩) m0 m0]) :: Lb := ⟨_, rfl⟩
  rw [← hL] at H
  have mX6 : (B6, [Value.slice (some ⟨X6, 0, none⟩) m0 m0]) ∈ L6 := by rw [hL]; simp
  replace mb0 := List.mem_cons_of_mem (B6, [Value.slice (some ⟨X6, 0, none⟩) m0 m0]) mb0
  rw [← hL] at mb0
  clear hL
  go_wp2_with fail
  rw [← hXS6.out]
  clear hXS6
  refine (toSums _ _ _ _ _ _ _ hs1 (r1.next (HeldL.below H))).mono ?_
  rintro e w7 ⟨X7, rfl, _, lX7, pX7, hb⟩
  replace H := H.next hb
  replace pX6 := pX6.next hb
  replace lX6 := Nat.lt_of_lt_of_le lX6 (Below.size hb)
  clear hb
  have c0 := H.cell mX6 (i := 0) rfl
  dsimp only at c0
  go_wp2_with fail
  refine (sumsOkI _ _ _ _ _ _ _ _ _ _ _ _ _ _ hs0 hN0 hs1 pX6 pX7).mono ?_
  rintro e w8 ⟨rfl, hb⟩
  rw [hd0.out]
  replace H := H.next hb
  replace pX6 := pX6.next hb
  replace lX6 := Nat.lt_of_lt_of_le lX6 (Below.size hb)
  replace pX7 := pX7.next hb
  replace lX7 := Nat.lt_of_lt_of_le lX7 (Below.size hb)
  clear c0
  clear hb
  have hS0 : HX w w8 L6 w8.drew := ⟨HeldL.drew H, (Below.refl _ w8).drew⟩
  clear H
  go_wp2_with fail
  refine region_inv3 [(0, 35), (1, 36), (2, 37), (3, 38), (4, 39)]
    (fun j v W => match j with
      | 0 => Is (.agg #[.slice (some ⟨X6, 0, none⟩) m0 m0]) v
      | 1 => Is (.agg #[.slice a0 m0 cap0]) v
      | 2 => PrgX P0 m0 v W
      | 3 => Is (.bool true) v
      | 4 => Is (.bool false) v
      | _ => True)
    (fun _ W => HX w w8 L6 W) TX
    (by kernel_rfl) (by kernel_rfl) (by kernel_rfl) (by kernel_rfl) (by kernel_rfl) rfl hS0 ?_ ?_ ?_
  · intro i j v W W' hji hφ hT
    match j, hji, hφ with
    | 0, _, hφ => exact hφ
    | 1, _, hφ => exact hφ
    | 2, _, hφ => exact hφ.next hT
    | 3, _, hφ => exact hφ
    | 4, _, hφ => exact hφ
    | _ + 5, _, _ => trivial
  · intro i L vals W hi' hφ hS hL hd
    have hi2 : i < 5 := hi'
    clear hi'
    rcases (show i = 0 ∨ i = 1 ∨ i = 2 ∨ i = 3 ∨ i = 4 by omega) with rfl | rfl | rfl | rfl | rfl
    · have c0 := hS.cell mX6 (i := 0) rfl
      dsimp only at c0
      refine wpAt_of rfl rfl ?_
      simp only [frOf, Act.put]
      go_wp2_with fail
      first | exact ⟨trivial, rfl, Below.refl _ _, hS⟩ | exact ⟨rfl, Below.refl _ _, hS⟩
    · have c0 := hS.cell mb0 (i := 0) rfl
      dsimp only at c0
      refine wpAt_of rfl rfl ?_
      simp only [frOf, Act.put]
      go_wp2_with fail
      first | exact ⟨trivial, rfl, Below.refl _ _, hS⟩ | exact ⟨rfl, Below.refl _ _, hS⟩
    · have k1 : vals 1 = .agg #[.slice a0 m0 cap0] := hφ 1 (hd 1 (by decide))
      refine wpAt_of rfl rfl ?_
      simp only [frOf, Act.put]
      go_wp2_with fail
      refine (toPrg _ _ _ _ _ _ _ _ hs0 hN0 (r0.next (HX.below hS))).mono ?_
      rintro e W' ⟨gN, SgN, rfl, _, lgN, pgN, _, ygN, hb⟩
      go_wp2_with fail
      first | exact ⟨trivial, ⟨_, _, rfl, lgN, pgN, ygN⟩, hb, HX.next hb hS⟩ | exact ⟨⟨_, _, rfl, lgN, pgN, ygN⟩, hb, HX.next hb hS⟩
    · have k0 : vals 0 = .agg #[.slice (some ⟨X6, 0, none⟩) m0 m0] := hφ 0 (hd 0 (by decide))
      obtain ⟨g2, S2, k2, l2, q2, y2⟩ : PrgX P0 m0 (vals 2) W := hφ 2 (hd 2 (by decide))
      refine wpAt_of rfl rfl ?_
      simp only [frOf, Act.put]
      go_wp2_with fail
      refine (eqPrg _ _ _ _ _ _ _ hs0 hN0 ⟨(Nat.lt_of_lt_of_le lX6 (HX.beh hS).size), l2⟩ (pX6.next (HX.beh hS)) q2 yX6 y2).mono ?_
      rintro e W' ⟨rfl, hb⟩
      go_wp2_with fail
      first | exact ⟨trivial, rfl, hb, HX.next hb hS⟩ | exact ⟨rfl, hb, HX.next hb hS⟩
    · have k3 : vals 3 = .bool true := hφ 3 (hd 3 (by decide))
      refine wpAt_of rfl rfl ?_
      simp only [frOf, Act.put]
      go_wp2_with fail
      first | exact ⟨trivial, rfl, Below.refl _ _, hS⟩ | exact ⟨rfl, Below.refl _ _, hS⟩
  · intro L vals v9 hall hφ hS
    have k0 : vals 0 = .agg #[.slice (some ⟨X6, 0, none⟩) m0 m0] := hφ 0 (by decide)
    have k1 : vals 1 = .agg #[.slice a0 m0 cap0] := hφ 1 (by decide)
    have k3 : vals 3 = .bool true := hφ 3 (by decide)
    have k4 : vals 4 = .bool false := hφ 4 (by decide)
    simp only [frOf, Act.put, List.setIfInBounds_toArray, List.set_cons_succ, List.set_cons_zero, k0, k1, k3, k4]
    clear k0 k1 k3 k4 hall hφ hS0
    have H := hS.1
    replace pX6 := pX6.next hS.2
    replace lX6 := Nat.lt_of_lt_of_le lX6 (Below.size hS.2)
    replace pX7 := pX7.next hS.2
    replace lX7 := Nat.lt_of_lt_of_le lX7 (Below.size hS.2)
    clear hS
    go_wp2_with fail
    refine (toSums _ _ _ _ _ _ _ hs1 (r1.next (HeldL.below H))).mono ?_
    rintro e w10 ⟨X10, rfl, _, lX10, pX10, hb⟩
    replace H := H.next hb
    replace pX6 := pX6.next hb
    replace lX6 := Nat.lt_of_lt_of_le lX6 (Below.size hb)
    replace pX7 := pX7.next hb
    replace lX7 := Nat.lt_of_lt_of_le lX7 (Below.size hb)
    clear hb
    go_wp2_with fail
    refine (eqSums _ _ _ _ _ hs1 pX7 pX10).mono ?_
    rintro e w11 ⟨rfl, hb⟩
    clear pX10 lX10
    replace H := H.next hb
    replace pX6 := pX6.next hb
    replace lX6 := Nat.lt_of_lt_of_le lX6 (Below.size hb)
    replace pX7 := pX7.next hb
    replace lX7 := Nat.lt_of_lt_of_le lX7 (Below.size hb)
    clear hb
    go_wp2_with fail
    go_ret
    exact ⟨rfl, H.below⟩

set_option maxRecDepth 100000 in
theorem contract (H : Type) (enc : TypeId × Value → H) (W : World) (base : Nat) (args : Array Value) (ds gs : List (DataW H)) (before : List MemPlace)
    (hval : ∀ (j : Nat) t v, Try.f3.params[j]? = some t → args[j]? = some v → Value.okWide Try.prog W .any base t v)
    (hW : DataW.Whole enc Try.prog Try.f3.params.toList Rows.fnExactSumsOkSpec.vars false W args.toList ds gs before) :
    Calls Try.prog 3 args W fun e W' => ∃ v, e = .returned v ∧ Rows.fnExactSumsOkSpec.post enc Try.prog Try.f3 false true false false W args v W' := by
  have hW' := hW
  obtain ⟨p, q, hA0, hV, rfl, hfz, hnd⟩ := hW
  have hA : DataW.TrodAll enc Try.prog W 0 (fun _ => true) true Try.f3.params.toList args.toList ds p := hA0
  rw [Try.params3] at hA hval
  obtain ⟨v0, vs0, d0, ds0, p0, q0, hargs, rfl, rfl, h0, r0'⟩ := trodAll_cons hA
  obtain ⟨v1, vs1, d1, ds1, p1, q1, rfl, rfl, rfl, h1, r1'⟩ := trodAll_cons r0'
  obtain ⟨rfl, rfl, rfl⟩ := trodAll_nil r1'
  obtain rfl : args = #[v0, v1] := by cases args; simp_all
  obtain ⟨rfl, rfl⟩ := trodVars_none hV
  have k0 := h0
  have lt0 : ∀ x ∈ p0, x.block < W.heap.size := by obtain ⟨m, hm⟩ := k0; exact DataW.trod_lt m _ _ _ hm
  obtain ⟨a0, m0, cap0, rfl, hm0, hn0, r0⟩ := open_prog (hval 0 24 v0 rfl rfl) h0
  have k1 := h1
  have lt1 : ∀ x ∈ p1, x.block < W.heap.size := by obtain ⟨m, hm⟩ := k1; exact DataW.trod_lt m _ _ _ hm
  obtain ⟨a1, n1, cap1, rfl⟩ := okWide_slice Try.underlying25 (hval 1 25 v1 rfl rfl)
  obtain ⟨hn1, r1⟩ : n1 ≤ maxLen ∧ SumsAt a1 (blk a1) (ofs a1) n1 (sumsAt W (blk a1) (ofs a1)) W := by
    obtain ⟨fq, hq⟩ := h1
    obtain ⟨a', n', cap', e, h1, h2⟩ := open_sums (v := .slice a1 n1 cap1) (by simpa [Value.cells] using hq)
    injection e with e1 e2 e3
    subst e1 e2 e3
    exact ⟨h1, h2⟩
  clear hA0
  refine (walk a0 m0 cap0 _ _ _ _ hm0 hn0 a1 _ _ n1 cap1 _ hn1 W r0 r1).mono fun e W' ⟨he, bel⟩ => ?_
  subst he
  exact ⟨_, rfl, _, _, _, [], _, [], hW', trodAll_mk1 (shut_bool Try.underlying4 _), (trodAll_cons_mk (Below.trod laidOut (by kernel_rfl) (of_decide_eq_true (by kernel_rfl)) k0 bel lt0) (trodAll_cons_mk (Below.trod laidOut (by kernel_rfl) (of_decide_eq_true (by kernel_rfl)) k1 bel lt1) trodAll_mk0)), rfl, bel.frame _, fun h => by cases h⟩

set_option maxRecDepth 100000 in
theorem lifted (os : Os) (started : os.Started) (H : Type) (enc : TypeId × Value → H) :
    ReturnsInHanded {} Try.checked os 3 .any (Rows.fnExactSumsOkSpec.pre6 enc Try.prog Try.f3 Rows.fnExactSumsOkRow.domain false) (Rows.fnExactSumsOkSpec.post enc Try.prog Try.f3 false true false false) := by
  refine returnsInHanded_of_change (C := Try.checked) own started (by kernel_rfl) Try.func3
    (ChangeSpec.witness6 (enc := enc) (C := Try.checked) false ⟨#[], #[.agg #[.slice none 0 0], .slice none 0 0], []⟩ 8 (by kernel_rfl) (by kernel_rfl) (by kernel_rfl) (by kernel_rfl)) ?_
  intro W base args ds gs before hval hW _ _
  exact contract H enc W base args ds gs before hval hW

theorem proved : Rows.FnExactSumsOkSaid :=
  OpenClaim.holds_of_wide 3 Try.f3 rfl rfl rfl rfl rfl rfl rfl ⟨rfl, rfl, rfl, rfl, rfl⟩ rfl rfl rfl rfl rfl (by kernel_rfl) Try.func3 (by kernel_rfl)
    (of_decide_eq_true (by kernel_rfl)) (by unfold Func.isWrapper; first | (rw [if_pos (by decide +kernel)]; kernel_rfl) | (rw [if_neg (by decide +kernel)]; exact ⟨rfl, rfl⟩))
    (fun os started H enc _ => lifted os started H enc)
#print axioms proved
end Go.Proofs.Ytaadlaiahgnfgaa.fnExactSumsOk
