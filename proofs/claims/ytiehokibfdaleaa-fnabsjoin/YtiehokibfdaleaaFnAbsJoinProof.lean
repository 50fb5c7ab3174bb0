/- Whatever bytes are handed in, the law FnAbsJoin returns true. Of more than 1048576 bytes the law itself answers true. No condition. -/
import Derived.Test.YtiehokibfdaleaaDrawTwo
import Derived.Test.YtiehokibfdaleaaAbsTold
import Derived.Test.YtiehokibfdaleaaAbsIn
import Derived.Test.YtiehokibfdaleaaExLaw
import Derived.Test.YtiehokibfdaleaaHeld
import Derived.Test.YtiehokibfdaleaaHeld8
import Derived.Deep.RegionHeld3
import Derived.Deep.DeepCutAuto
import Derived.WalkKit
import Derived.ProofKit
import Derived.OpenShut
import Derived.ShutString
import Derived.ChangeOld
import Derived.Below
namespace Go.Proofs.Ytiehokibfdaleaa.fnAbsJoin
open Go.ChangeShapes Go.WideShapes Go.ChangeAt Go.RowKit
open Go.ChangeMaps (open_string shut_string)
set_option linter.unusedVariables false

theorem own : ownKnob Try.prog.godebug = none := by kernel_rfl
theorem laidOut : laidOutB Try.prog = true := by kernel_rfl

theorem owOkA (w : World) : Calls Try.prog 11 #[] w fun e w' => e = .returned (.bool true) ∧ w' = w := by
  go_enter Try.func11, Try.ntmps11
  go_wp2_with (go_at_call 29; refine (okI _ _).mono ?_; rintro e w' ⟨rfl, rfl⟩)
  go_ret
  exact ⟨rfl, rfl⟩

set_option maxRecDepth 10000 in
set_option maxHeartbeats 40000000 in
theorem walk (a0 : Option Addr) (len0 cap0 : Nat) (z0 : Nat → Int) (a1 : Option Addr) (len1 cap1 : Nat) (z1 : Nat → Int) (w : World) (hz0 : ∀ i, 0 ≤ z0 i ∧ z0 i ≤ 255) (r0 : Bytes w a0 len0 cap0 z0) (hz1 : ∀ i, 0 ≤ z1 i ∧ z1 i ≤ 255) (r1 : Bytes w a1 len1 cap1 z1) :
    Calls Try.prog 3 #[.slice a0 len0 cap0, .slice a1 len1 cap1] w fun e w' => e = .returned (.bool true) ∧ Below w.heap.size w w' := by
  by_cases hl0 : len0 ≤ 1048576
  case neg =>
    have hi : (1048576 : Int) < (len0 : Int) := by omega
    go_enter Try.func3, Try.ntmps3
    go_wp2_with fail
    go_ret
    exact ⟨rfl, Below.refl _ _⟩
  have hi0 : ¬ (1048576 : Int) < (len0 : Int) := by omega
  by_cases hl1 : len1 ≤ 1048576
  case neg =>
    have hi : (1048576 : Int) < (len1 : Int) := by omega
    go_enter Try.func3, Try.ntmps3
    go_wp2_with fail
    go_ret
    exact ⟨rfl, Below.refl _ _⟩
  have hi1 : ¬ (1048576 : Int) < (len1 : Int) := by omega
  go_enter Try.func3, Try.ntmps3
  go_wp2_with fail
  refine (drawAbsJoin a0 len0 cap0 z0 _ hz0 hl0 r0).mono ?_
  rintro e w1 ⟨v1, v2, d1, d2, rfl, b1⟩
  have ed1 := d1
  obtain ⟨onA, aA, _, nA, cA, _, xA, yA, rfl, _, _, _⟩ := ed1
  obtain ⟨gA, lA, hA, EA⟩ := d1.told
  have ed2 := d2
  obtain ⟨onB, aB, _, nB, cB, _, xB, yB, rfl, _, _, _⟩ := ed2
  obtain ⟨gB, lB, hB, EB⟩ := d2.told
  have H1 : HeldL w [(w1.heap.size + 1, [Value.bool onB, .slice aB nB cB, .int .i64 xB, .int .i64 yB]), (w1.heap.size, [Value.bool onA, .slice aA nA cA, .int .i64 xA, .int .i64 yA])] ((w1.alloc (.cells #[.bool onA, .slice aA nA cA, .int .i64 xA, .int .i64 yA] 27)).alloc (.cells #[.bool onB, .slice aB nB cB, .int .i64 xB, .int .i64 yB] 27)) := by
    have e1 : w1.heap.size + 1 = (w1.alloc (.cells #[.bool onA, .slice aA nA cA, .int .i64 xA, .int .i64 yA] 27)).heap.size := by simp
    rw [e1]
    exact HeldL.newL (vs := [Value.bool onB, .slice aB nB cB, .int .i64 xB, .int .i64 yB]) (HeldL.newL (vs := [Value.bool onA, .slice aA nA cA, .int .i64 xA, .int .i64 yA]) ((HeldL.nil w).next b1))
  have bb1 : Below w1.heap.size w1 ((w1.alloc (.cells #[.bool onA, .slice aA nA cA, .int .i64 xA, .int .i64 yA] 27)).alloc (.cells #[.bool onB, .slice aB nB cB, .int .i64 xB, .int .i64 yB] 27)) := ((Below.refl _ _).alloc (Nat.le_refl _) _).alloc (by simp) _
  have kA := EA.at_.next bb1
  have kB := EB.at_.next bb1
  have qA : nA ≤ 1048576 := by have := EA.le; omega
  have qB : nB ≤ 1048576 := by have := EB.le; omega
  have r1' := r1.kept H1.below
  clear d1 d2 EA EB b1 r0 r1 bb1
  go_wp2_with fail
  refine (drawAbsJoin a1 len1 cap1 z1 _ hz1 hl1 r1').mono ?_
  rintro e w2 ⟨v3, v4, d3, d4, rfl, b2⟩
  have ed3 := d3
  obtain ⟨onC, aC, _, nC, cC, _, xC, yC, rfl, _, _, _⟩ := ed3
  obtain ⟨gC, lC, hC, EC⟩ := d3.told
  have ed4 := d4
  obtain ⟨onD, aD, _, nD, cD, _, xD, yD, rfl, _, _, _⟩ := ed4
  obtain ⟨gD, lD, hD, ED⟩ := d4.told
  have qC : nC ≤ 1048576 := by have := EC.le; omega
  obtain ⟨W1, hW1⟩ : ∃ W, W = (w1.alloc (.cells #[.bool onA, .slice aA nA cA, .int .i64 xA, .int .i64 yA] 27)).alloc (.cells #[.bool onB, .slice aB nB cB, .int .i64 xB, .int .i64 yB] 27) := ⟨_, rfl⟩
  rw [← hW1] at H1 kA kB b2
  obtain ⟨XA, hXA⟩ : ∃ X, X = w1.heap.size := ⟨_, rfl⟩
  obtain ⟨XB, hXB⟩ : ∃ X, X = w1.heap.size + 1 := ⟨_, rfl⟩
  rw [← hXB, ← hXA] at H1
  have hXAh : Hid (XA = w1.heap.size) := hXA
  have hXBh : Hid (XB = w1.heap.size + 1) := hXB
  clear hXA hXB hW1 d3 d4
  have H2 : HeldL w [(w2.heap.size + 1, [Value.bool onD, .slice aD nD cD, .int .i64 xD, .int .i64 yD]), (w2.heap.size, [Value.bool onC, .slice aC nC cC, .int .i64 xC, .int .i64 yC]), (XB, [Value.bool onB, .slice aB nB cB, .int .i64 xB, .int .i64 yB]), (XA, [Value.bool onA, .slice aA nA cA, .int .i64 xA, .int .i64 yA])] ((w2.alloc (.cells #[.bool onC, .slice aC nC cC, .int .i64 xC, .int .i64 yC] 27)).alloc (.cells #[.bool onD, .slice aD nD cD, .int .i64 xD, .int .i64 yD] 27)) := by
    have e1 : w2.heap.size + 1 = (w2.alloc (.cells #[.bool onC, .slice aC nC cC, .int .i64 xC, .int .i64 yC] 27)).heap.size := by simp
    rw [e1]
    exact HeldL.newL (vs := [Value.bool onD, .slice aD nD cD, .int .i64 xD, .int .i64 yD]) (HeldL.newL (vs := [Value.bool onC, .slice aC nC cC, .int .i64 xC, .int .i64 yC]) (H1.next b2))
  have bb2 : Below w2.heap.size w2 ((w2.alloc (.cells #[.bool onC, .slice aC nC cC, .int .i64 xC, .int .i64 yC] 27)).alloc (.cells #[.bool onD, .slice aD nD cD, .int .i64 xD, .int .i64 yD] 27)) := ((Below.refl _ _).alloc (Nat.le_refl _) _).alloc (by simp) _
  replace kA := (kA.next b2).next bb2
  replace kB := (kB.next b2).next bb2
  have kC := EC.at_.next bb2
  clear EC ED b2 bb2 H1
  have p0 := H2.cell (e := (XA, [Value.bool onA, .slice aA nA cA, .int .i64 xA, .int .i64 yA])) (by simp) (i := 0) rfl
  have p1 := H2.cell (e := (XA, [Value.bool onA, .slice aA nA cA, .int .i64 xA, .int .i64 yA])) (by simp) (i := 1) rfl
  have p2 := H2.cell (e := (XA, [Value.bool onA, .slice aA nA cA, .int .i64 xA, .int .i64 yA])) (by simp) (i := 2) rfl
  have p3 := H2.cell (e := (XA, [Value.bool onA, .slice aA nA cA, .int .i64 xA, .int .i64 yA])) (by simp) (i := 3) rfl
  have p4 := H2.cell (e := (XB, [Value.bool onB, .slice aB nB cB, .int .i64 xB, .int .i64 yB])) (by simp) (i := 0) rfl
  have p5 := H2.cell (e := (XB, [Value.bool onB, .slice aB nB cB, .int .i64 xB, .int .i64 yB])) (by simp) (i := 1) rfl
  have p6 := H2.cell (e := (XB, [Value.bool onB, .slice aB nB cB, .int .i64 xB, .int .i64 yB])) (by simp) (i := 2) rfl
  have p7 := H2.cell (e := (XB, [Value.bool onB, .slice aB nB cB, .int .i64 xB, .int .i64 yB])) (by simp) (i := 3) rfl
  dsimp only at p0 p1 p2 p3 p4 p5 p6 p7
  obtain ⟨onJ, nJ, lJ, hJ, xJ, yJ, eJ⟩ : ∃ on n lo hi c d, mixS joinLo joinHi ⟨onA, nA, lA, hA, xA, yA⟩ ⟨onB, nB, lB, hB, xB, yB⟩ = (⟨on, n, lo, hi, c, d⟩ : St) := ⟨_, _, _, _, _, _, rfl⟩
  have sJ : Hid (SameS (mixS joinLo joinHi ⟨onA, nA, lA, hA, xA, yA⟩ ⟨onB, nB, lB, hB, xB, yB⟩) ⟨onJ, nJ, lJ, hJ, xJ, yJ⟩) := show SameS _ _ by rw [eJ]; exact ⟨rfl, rfl, rfl, rfl, fun _ _ => ⟨rfl, rfl⟩⟩
  rw [← hXBh.out, ← hXAh.out]
  go_wp2_with fail
  refine (joinI_is onA aA gA nA cA lA hA xA yA onB aB gB nB cB lB hB xB yB onJ nJ lJ hJ xJ yJ _ qA qB kA kB sJ.out).mono ?_
  rintro e w3 ⟨aJ, gJ, cJ, rfl, kJ, b3⟩
  have qJ : nJ ≤ 1048576 := by have := mixS_le (f := joinLo) (g := joinHi) (s := ⟨onA, nA, lA, hA, xA, yA⟩) (t := ⟨onB, nB, lB, hB, xB, yB⟩); rw [eJ] at this; dsimp only at this; omega
  obtain ⟨W2, hW2⟩ : ∃ W, W = (w2.alloc (.cells #[.bool onC, .slice aC nC cC, .int .i64 xC, .int .i64 yC] 27)).alloc (.cells #[.bool onD, .slice aD nD cD, .int .i64 xD, .int .i64 yD] 27) := ⟨_, rfl⟩
  rw [← hW2] at H2 kA kB kC b3
  have bb3 : Below w3.heap.size w3 (w3.alloc (.cells #[.bool onJ, .slice aJ nJ cJ, .int .i64 xJ, .int .i64 yJ] 27)) := (Below.refl _ _).alloc (Nat.le_refl _) _
  replace kA := (kA.next b3).next bb3
  replace kB := (kB.next b3).next bb3
  replace kC := (kC.next b3).next bb3
  replace kJ := kJ.next bb3
  have H3 := HeldL.newL (vs := [Value.bool onJ, .slice aJ nJ cJ, .int .i64 xJ, .int .i64 yJ]) (t := 27) (HeldL.next b3 H2)
  clear H2 hW2 b3 bb3 p0 p1 p2 p3 p4 p5 p6 p7
  obtain ⟨XC, hXC⟩ : ∃ X, X = w2.heap.size := ⟨_, rfl⟩
  obtain ⟨XD, hXD⟩ : ∃ X, X = w2.heap.size + 1 := ⟨_, rfl⟩
  obtain ⟨XJ, hXJ⟩ : ∃ X, X = w3.heap.size := ⟨_, rfl⟩
  obtain ⟨wz, hwz⟩ : ∃ W, W = w3.alloc (.cells #[.bool onJ, .slice aJ nJ cJ, .int .i64 xJ, .int .i64 yJ] 27) := ⟨_, rfl⟩
  rw [← hwz] at H3 kA kB kC kJ
  rw [← hXD, ← hXC, ← hXJ] at H3
  obtain ⟨Lb, hLb⟩ : ∃ L, L = [(XJ, [Value.bool onJ, .slice aJ nJ cJ, .int .i64 xJ, .int .i64 yJ]), (XD, [Value.bool onD, .slice aD nD cD, .int .i64 xD, .int .i64 yD]), (XC, [Value.bool onC, .slice aC nC cC, .int .i64 xC, .int .i64 yC]), (XB, [Value.bool onB, .slice aB nB cB, .int .i64 xB, .int .i64 yB]), (XA, [Value.bool onA, .slice aA nA cA, .int .i64 xA, .int .i64 yA])] := ⟨_, rfl⟩
  rw [← hLb] at H3
  have mA : (XA, [Value.bool onA, .slice aA nA cA, .int .i64 xA, .int .i64 yA]) ∈ Lb := by rw [hLb]; simp
  have mB : (XB, [Value.bool onB, .slice aB nB cB, .int .i64 xB, .int .i64 yB]) ∈ Lb := by rw [hLb]; simp
  have mC : (XC, [Value.bool onC, .slice aC nC cC, .int .i64 xC, .int .i64 yC]) ∈ Lb := by rw [hLb]; simp
  have mJ : (XJ, [Value.bool onJ, .slice aJ nJ cJ, .int .i64 xJ, .int .i64 yJ]) ∈ Lb := by rw [hLb]; simp
  have hXCh : Hid (XC = w2.heap.size) := hXC
  have hXDh : Hid (XD = w2.heap.size + 1) := hXD
  have hXJh : Hid (XJ = w3.heap.size) := hXJ
  have hwh : Hid (wz = w3.alloc (.cells #[.bool onJ, .slice aJ nJ cJ, .int .i64 xJ, .int .i64 yJ] 27)) := hwz
  clear hXC hXD hXJ hwz hLb
  have hS0 : HX w wz Lb wz.drew := ⟨HeldL.drew H3, (Below.refl _ wz).drew⟩
  clear H3
  go_wp2_with fail
  rw [← hwh.out, ← hXDh.out, ← hXCh.out, ← hXJh.out]
  clear hXCh hXDh hXJh hwh
  refine region_inv3 [(0, 31), (1, 32), (2, 33), (3, 34), (4, 35), (5, 36)]
    (fun j v W => match j with
      | 0 => Is (.agg #[.bool onJ, .slice aJ nJ cJ, .int .i64 xJ, .int .i64 yJ]) v
      | 1 => Is (.agg #[.bool onA, .slice aA nA cA, .int .i64 xA, .int .i64 yA]) v
      | 2 => Is (.agg #[.bool onB, .slice aB nB cB, .int .i64 xB, .int .i64 yB]) v
      | 3 => StJ onJ nJ lJ hJ xJ yJ v W
      | 4 => Is (.bool true) v
      | 5 => Is (.bool false) v
      | _ => True)
    (fun _ W => HX w wz Lb W) TX
    (by kernel_rfl) (by kernel_rfl) (by kernel_rfl) (by kernel_rfl) (by kernel_rfl) rfl hS0 ?_ ?_ ?_
  · intro i j v W W' hji hφ hT
    match j, hφ with
    | 0, hφ => exact hφ
    | 1, hφ => exact hφ
    | 2, hφ => exact hφ
    | 3, hφ => exact hφ.next hT
    | 4, hφ => exact hφ
    | 5, hφ => exact hφ
    | _ + 6, _ => trivial
  · intro i L vals W hi' hφ hS hL hd
    have hi2 : i < 6 := hi'
    clear hi'
    obtain ⟨aq, gq, cpq, hq3⟩ : ∃ (aq : Option Addr) (gq cpq : Nat), L 3 = true → vals 3 = .agg #[.bool onJ, .slice aq nJ cpq, .int .i64 xJ, .int .i64 yJ] ∧ BndsAt aq gq 0 nJ lJ hJ W := by
      by_cases h : L 3 = true
      · obtain ⟨aq, gq, cpq, h1, h2⟩ : StJ onJ nJ lJ hJ xJ yJ (vals 3) W := hφ 3 h
        exact ⟨aq, gq, cpq, fun _ => ⟨h1, h2⟩⟩
      · exact ⟨none, 0, 0, fun h' => absurd h' h⟩
    rcases (show i = 0 ∨ i = 1 ∨ i = 2 ∨ i = 3 ∨ i = 4 ∨ i = 5 by omega) with rfl | rfl | rfl | rfl | rfl | rfl
    · have b0 := hS.cell mJ (i := 0) rfl
      have b1 := hS.cell mJ (i := 1) rfl
      have b2 := hS.cell mJ (i := 2) rfl
      have b3 := hS.cell mJ (i := 3) rfl
      dsimp only at b0 b1 b2 b3
      refine wpAt_of rfl rfl ?_
      simp only [frOf, Act.put]
      go_wp2_with fail
      first | exact ⟨trivial, rfl, Below.refl _ _, hS⟩ | exact ⟨rfl, Below.refl _ _, hS⟩
    · have b0 := hS.cell mA (i := 0) rfl
      have b1 := hS.cell mA (i := 1) rfl
      have b2 := hS.cell mA (i := 2) rfl
      have b3 := hS.cell mA (i := 3) rfl
      dsimp only at b0 b1 b2 b3
      refine wpAt_of rfl rfl ?_
      simp only [frOf, Act.put]
      go_wp2_with fail
      first | exact ⟨trivial, rfl, Below.refl _ _, hS⟩ | exact ⟨rfl, Below.refl _ _, hS⟩
    · have b0 := hS.cell mB (i := 0) rfl
      have b1 := hS.cell mB (i := 1) rfl
      have b2 := hS.cell mB (i := 2) rfl
      have b3 := hS.cell mB (i := 3) rfl
      dsimp only at b0 b1 b2 b3
      refine wpAt_of rfl rfl ?_
      simp only [frOf, Act.put]
      go_wp2_with fail
      first | exact ⟨trivial, rfl, Below.refl _ _, hS⟩ | exact ⟨rfl, Below.refl _ _, hS⟩
    · have k1 : vals 1 = .agg #[.bool onA, .slice aA nA cA, .int .i64 xA, .int .i64 yA] := hφ 1 (hd 1 (by decide))
      have k2 : vals 2 = .agg #[.bool onB, .slice aB nB cB, .int .i64 xB, .int .i64 yB] := hφ 2 (hd 2 (by decide))
      refine wpAt_of rfl rfl ?_
      simp only [frOf, Act.put]
      go_wp2_with fail
      refine (joinS_is onA aA gA nA cA lA hA xA yA onB aB gB nB cB lB hB xB yB onJ nJ lJ hJ xJ yJ _ (kA.next hS.beh) (kB.next hS.beh) sJ.out).mono ?_
      rintro e W' ⟨aq, gq, cpq, rfl, hq, hb⟩
      go_wp2_with fail
      first | exact ⟨trivial, ⟨aq, gq, cpq, rfl, hq⟩, hb, HX.next hb hS⟩ | exact ⟨⟨aq, gq, cpq, rfl, hq⟩, hb, HX.next hb hS⟩
    · have k0 : vals 0 = .agg #[.bool onJ, .slice aJ nJ cJ, .int .i64 xJ, .int .i64 yJ] := hφ 0 (hd 0 (by decide))
      have k3 := (hq3 (hd 3 (by decide))).1
      have hq := (hq3 (hd 3 (by decide))).2
      refine wpAt_of rfl rfl ?_
      simp only [frOf, Act.put]
      go_wp2_with fail
      refine (owStateT onJ aJ gJ 0 nJ cJ lJ hJ xJ yJ aq gq 0 cpq _ (kJ.next hS.beh) hq qJ).mono ?_
      rintro e W' ⟨rfl, hb⟩
      go_wp2_with fail
      first | exact ⟨trivial, rfl, hb, HX.next hb hS⟩ | exact ⟨rfl, hb, HX.next hb hS⟩
    · have k4 : vals 4 = .bool true := hφ 4 (hd 4 (by decide))
      refine wpAt_of rfl rfl ?_
      simp only [frOf, Act.put]
      go_wp2_with fail
      first | exact ⟨trivial, rfl, Below.refl _ _, hS⟩ | exact ⟨rfl, Below.refl _ _, hS⟩
  · intro L vals W hall hφ hS
    have k0 : vals 0 = .agg #[.bool onJ, .slice aJ nJ cJ, .int .i64 xJ, .int .i64 yJ] := hφ 0 (by decide)
    have k1 : vals 1 = .agg #[.bool onA, .slice aA nA cA, .int .i64 xA, .int .i64 yA] := hφ 1 (by decide)
    have k2 : vals 2 = .agg #[.bool onB, .slice aB nB cB, .int .i64 xB, .int .i64 yB] := hφ 2 (by decide)
    obtain ⟨aq, gq, cpq, k3, _⟩ : StJ onJ nJ lJ hJ xJ yJ (vals 3) W := hφ 3 (by decide)
    have k4 : vals 4 = .bool true := hφ 4 (by decide)
    have k5 : vals 5 = .bool false := hφ 5 (by decide)
    simp only [frOf, Act.put, List.setIfInBounds_toArray, List.set_cons_succ, List.set_cons_zero, k0, k1, k2, k3, k4, k5]
    clear k0 k1 k2 k3 k4 k5 hall hφ hS0
    obtain ⟨oA, hoA⟩ : ∃ q, okT ⟨onA, nA, lA, hA, xA, yA⟩ = q := ⟨_, rfl⟩
    have hoAh : Hid (okT ⟨onA, nA, lA, hA, xA, yA⟩ = oA) := hoA
    clear hoA
    have b0 := hS.cell mA (i := 0) rfl
    have b1 := hS.cell mA (i := 1) rfl
    have b2 := hS.cell mA (i := 2) rfl
    have b3 := hS.cell mA (i := 3) rfl
    dsimp only at b0 b1 b2 b3
    go_wp2_with fail
    refine (okS_is onA aA gA nA cA lA hA xA yA oA _ (kA.next hS.beh) hoAh.out).mono ?_
    rintro e w' ⟨rfl, hb⟩
    replace hS := HX.next hb hS
    clear hb b0 b1 b2 b3
    have hoA := hoAh.out
    clear hoAh
    cases oA with
    | false =>
      obtain rfl : onJ = false := by have := mixS_bad (f := joinLo) (g := joinHi) (s := ⟨onA, nA, lA, hA, xA, yA⟩) (t := ⟨onB, nB, lB, hB, xB, yB⟩) (by rw [hoA]; rfl); rw [eJ] at this; exact this
      have b0 := hS.cell mJ (i := 0) rfl
      have b1 := hS.cell mJ (i := 1) rfl
      have b2 := hS.cell mJ (i := 2) rfl
      have b3 := hS.cell mJ (i := 3) rfl
      dsimp only at b0 b1 b2 b3
      clear eJ sJ hoA
      go_wp2_with (first | (go_at_call 11; refine (owOkA _).mono ?_; rintro e w' ⟨rfl, rfl⟩))
      go_ret
      exact ⟨rfl, hS.below⟩
    | true =>
      obtain ⟨oB, hoB⟩ : ∃ q, okT ⟨onB, nB, lB, hB, xB, yB⟩ = q := ⟨_, rfl⟩
      have hoBh : Hid (okT ⟨onB, nB, lB, hB, xB, yB⟩ = oB) := hoB
      clear hoB
      have b0 := hS.cell mB (i := 0) rfl
      have b1 := hS.cell mB (i := 1) rfl
      have b2 := hS.cell mB (i := 2) rfl
      have b3 := hS.cell mB (i := 3) rfl
      dsimp only at b0 b1 b2 b3
      go_wp2_with fail
      refine (okS_is onB aB gB nB cB lB hB xB yB oB _ (kB.next hS.beh) hoBh.out).mono ?_
      rintro e w' ⟨rfl, hb⟩
      replace hS := HX.next hb hS
      clear hb b0 b1 b2 b3
      have hoB := hoBh.out
      clear hoBh
      cases oB with
      | false =>
        obtain rfl : onJ = false := by have := mixS_bad (f := joinLo) (g := joinHi) (s := ⟨onA, nA, lA, hA, xA, yA⟩) (t := ⟨onB, nB, lB, hB, xB, yB⟩) (by rw [hoA, hoB]; rfl); rw [eJ] at this; exact this
        have b0 := hS.cell mJ (i := 0) rfl
        have b1 := hS.cell mJ (i := 1) rfl
        have b2 := hS.cell mJ (i := 2) rfl
        have b3 := hS.cell mJ (i := 3) rfl
        dsimp only at b0 b1 b2 b3
        clear eJ sJ hoA hoB
        go_wp2_with (first | (go_at_call 11; refine (owOkA _).mono ?_; rintro e w' ⟨rfl, rfl⟩))
        go_ret
        exact ⟨rfl, hS.below⟩
      | true =>
        have iA : Hid (inT ⟨onA, nA, lA, hA, xA, yA⟩ ⟨onJ, nJ, lJ, hJ, xJ, yJ⟩ = true) := show _ = true by rw [← eJ]; exact (mixS_has join_grows hoA hoB).1
        have iB : Hid (inT ⟨onB, nB, lB, hB, xB, yB⟩ ⟨onJ, nJ, lJ, hJ, xJ, yJ⟩ = true) := show _ = true by rw [← eJ]; exact (mixS_has join_grows hoA hoB).2
        have sK : Hid (SameS (mixS joinLo joinHi ⟨onB, nB, lB, hB, xB, yB⟩ ⟨onA, nA, lA, hA, xA, yA⟩) ⟨onJ, nJ, lJ, hJ, xJ, yJ⟩) := show SameS _ _ by rw [← eJ]; exact join_comm hoA hoB
        have lst : Hid (okT ⟨onC, nC, lC, hC, xC, yC⟩ = true → inT ⟨onA, nA, lA, hA, xA, yA⟩ ⟨onC, nC, lC, hC, xC, yC⟩ = true → inT ⟨onB, nB, lB, hB, xB, yB⟩ ⟨onC, nC, lC, hC, xC, yC⟩ = true → inT ⟨onJ, nJ, lJ, hJ, xJ, yJ⟩ ⟨onC, nC, lC, hC, xC, yC⟩ = true) := show _ → _ by rw [← eJ]; exact join_least hoA hoB
        clear eJ hoA hoB sJ
        have hS0 := hS.drew
        clear hS
        go_wp2_with fail
        refine region_inv3 [(0, 51), (1, 52), (2, 53), (3, 54), (4, 55), (5, 56), (6, 57), (7, 58), (8, 59), (9, 60), (10, 61), (11, 62), (12, 63), (13, 64), (14, 65), (15, 66), (16, 67), (17, 68)]
          (fun j v W => match j with
            | 0 => Is (.agg #[.bool onA, .slice aA nA cA, .int .i64 xA, .int .i64 yA]) v
            | 1 => Is (.agg #[.bool onJ, .slice aJ nJ cJ, .int .i64 xJ, .int .i64 yJ]) v
            | 2 => Is (.bool true) v
            | 3 => Is (.bool false) v
            | 4 => Is (.bool false) v
            | 5 => Is (.agg #[.bool onB, .slice aB nB cB, .int .i64 xB, .int .i64 yB]) v
            | 6 => Is (.agg #[.bool onJ, .slice aJ nJ cJ, .int .i64 xJ, .int .i64 yJ]) v
            | 7 => Is (.bool true) v
            | 8 => Is (.bool false) v
            | 9 => Is (.bool false) v
            | 10 => Is (.bool false) v
            | 11 => Is (.agg #[.bool onB, .slice aB nB cB, .int .i64 xB, .int .i64 yB]) v
            | 12 => Is (.agg #[.bool onA, .slice aA nA cA, .int .i64 xA, .int .i64 yA]) v
            | 13 => StJ onJ nJ lJ hJ xJ yJ v W
            | 14 => Is (.agg #[.bool onJ, .slice aJ nJ cJ, .int .i64 xJ, .int .i64 yJ]) v
            | 15 => Is (.bool true) v
            | 16 => Is (.bool false) v
            | 17 => Is (.bool false) v
            | _ => True)
          (fun _ W => HX w wz Lb W) TX
          (by kernel_rfl) (by kernel_rfl) (by kernel_rfl) (by kernel_rfl) (by kernel_rfl) rfl hS0 ?_ ?_ ?_
        · intro i j v W W' hji hφ hT
          match j, hφ with
          | 0, hφ => exact hφ
          | 1, hφ => exact hφ
          | 2, hφ => exact hφ
          | 3, hφ => exact hφ
          | 4, hφ => exact hφ
          | 5, hφ => exact hφ
          | 6, hφ => exact hφ
          | 7, hφ => exact hφ
          | 8, hφ => exact hφ
          | 9, hφ => exact hφ
          | 10, hφ => exact hφ
          | 11, hφ => exact hφ
          | 12, hφ => exact hφ
          | 13, hφ => exact hφ.next hT
          | 14, hφ => exact hφ
          | 15, hφ => exact hφ
          | 16, hφ => exact hφ
          | 17, hφ => exact hφ
          | _ + 18, _ => trivial
        · intro i L vals W hi' hφ hS hL hd
          have hi2 : i < 18 := hi'
          clear hi'
          obtain ⟨aq, gq, cpq, hq13⟩ : ∃ (aq : Option Addr) (gq cpq : Nat), L 13 = true → vals 13 = .agg #[.bool onJ, .slice aq nJ cpq, .int .i64 xJ, .int .i64 yJ] ∧ BndsAt aq gq 0 nJ lJ hJ W := by
            by_cases h : L 13 = true
            · obtain ⟨aq, gq, cpq, h1, h2⟩ : StJ onJ nJ lJ hJ xJ yJ (vals 13) W := hφ 13 h
              exact ⟨aq, gq, cpq, fun _ => ⟨h1, h2⟩⟩
            · exact ⟨none, 0, 0, fun h' => absurd h' h⟩
          rcases (show i = 0 ∨ i = 1 ∨ i = 2 ∨ i = 3 ∨ i = 4 ∨ i = 5 ∨ i = 6 ∨ i = 7 ∨ i = 8 ∨ i = 9 ∨ i = 10 ∨ i = 11 ∨ i = 12 ∨ i = 13 ∨ i = 14 ∨ i = 15 ∨ i = 16 ∨ i = 17 by omega) with rfl | rfl | rfl | rfl | rfl | rfl | rfl | rfl | rfl | rfl | rfl | rfl | rfl | rfl | rfl | rfl | rfl | rfl
          · have b0 := hS.cell mA (i := 0) rfl
            have b1 := hS.cell mA (i := 1) rfl
            have b2 := hS.cell mA (i := 2) rfl
            have b3 := hS.cell mA (i := 3) rfl
            dsimp only at b0 b1 b2 b3
            refine wpAt_of rfl rfl ?_
            simp only [frOf, Act.put]
            go_wp2_with fail
            first | exact ⟨trivial, rfl, Below.refl _ _, hS⟩ | exact ⟨rfl, Below.refl _ _, hS⟩
          · have b0 := hS.cell mJ (i := 0) rfl
            have b1 := hS.cell mJ (i := 1) rfl
            have b2 := hS.cell mJ (i := 2) rfl
            have b3 := hS.cell mJ (i := 3) rfl
            dsimp only at b0 b1 b2 b3
            refine wpAt_of rfl rfl ?_
            simp only [frOf, Act.put]
            go_wp2_with fail
            first | exact ⟨trivial, rfl, Below.refl _ _, hS⟩ | exact ⟨rfl, Below.refl _ _, hS⟩
          · have k0 : vals 0 = .agg #[.bool onA, .slice aA nA cA, .int .i64 xA, .int .i64 yA] := hφ 0 (hd 0 (by decide))
            have k1 : vals 1 = .agg #[.bool onJ, .slice aJ nJ cJ, .int .i64 xJ, .int .i64 yJ] := hφ 1 (hd 1 (by decide))
            refine wpAt_of rfl rfl ?_
            simp only [frOf, Act.put]
            go_wp2_with fail
            refine (inI_is onA aA gA nA cA lA hA xA yA onJ aJ gJ nJ cJ lJ hJ xJ yJ true _ qA qJ (kA.next hS.beh) (kJ.next hS.beh) iA.out).mono ?_
            rintro e W' ⟨rfl, hb⟩
            go_wp2_with fail
            first | exact ⟨trivial, rfl, hb, HX.next hb hS⟩ | exact ⟨rfl, hb, HX.next hb hS⟩
          · have k2 : vals 2 = .bool true := hφ 2 (hd 2 (by decide))
            refine wpAt_of rfl rfl ?_
            simp only [frOf, Act.put]
            go_wp2_with fail
            first | exact ⟨trivial, rfl, Below.refl _ _, hS⟩ | exact ⟨rfl, Below.refl _ _, hS⟩
          · have k3 : vals 3 = .bool false := hφ 3 (hd 3 (by decide))
            refine wpAt_of rfl rfl ?_
            simp only [frOf, Act.put]
            go_wp2_with fail
            first | exact ⟨trivial, rfl, Below.refl _ _, hS⟩ | exact ⟨rfl, Below.refl _ _, hS⟩
          · have k4 : vals 4 = .bool false := hφ 4 (hd 4 (by decide))
            have b0 := hS.cell mB (i := 0) rfl
            have b1 := hS.cell mB (i := 1) rfl
            have b2 := hS.cell mB (i := 2) rfl
            have b3 := hS.cell mB (i := 3) rfl
            dsimp only at b0 b1 b2 b3
            simp only [wpAt, List.getElem?_toArray, List.getElem?_cons_succ, List.getElem?_cons_zero, slotOf, frOf, Act.put]
            go_wp2_with fail
            first | exact ⟨trivial, rfl, Below.refl _ _, hS⟩ | exact ⟨rfl, Below.refl _ _, hS⟩
          · have k4 : vals 4 = .bool false := hφ 4 (hd 4 (by decide))
            have b0 := hS.cell mJ (i := 0) rfl
            have b1 := hS.cell mJ (i := 1) rfl
            have b2 := hS.cell mJ (i := 2) rfl
            have b3 := hS.cell mJ (i := 3) rfl
            dsimp only at b0 b1 b2 b3
            simp only [wpAt, List.getElem?_toArray, List.getElem?_cons_succ, List.getElem?_cons_zero, slotOf, frOf, Act.put]
            go_wp2_with fail
            first | exact ⟨trivial, rfl, Below.refl _ _, hS⟩ | exact ⟨rfl, Below.refl _ _, hS⟩
          · have k4 : vals 4 = .bool false := hφ 4 (hd 4 (by decide))
            have k5 : vals 5 = .agg #[.bool onB, .slice aB nB cB, .int .i64 xB, .int .i64 yB] := hφ 5 (hd 5 (by decide))
            have k6 : vals 6 = .agg #[.bool onJ, .slice aJ nJ cJ, .int .i64 xJ, .int .i64 yJ] := hφ 6 (hd 6 (by decide))
            simp only [wpAt, List.getElem?_toArray, List.getElem?_cons_succ, List.getElem?_cons_zero, slotOf, frOf, Act.put]
            go_wp2_with fail
            refine (inI_is onB aB gB nB cB lB hB xB yB onJ aJ gJ nJ cJ lJ hJ xJ yJ true _ qB qJ (kB.next hS.beh) (kJ.next hS.beh) iB.out).mono ?_
            rintro e W' ⟨rfl, hb⟩
            go_wp2_with fail
            first | exact ⟨trivial, rfl, hb, HX.next hb hS⟩ | exact ⟨rfl, hb, HX.next hb hS⟩
          · have k4 : vals 4 = .bool false := hφ 4 (hd 4 (by decide))
            have k7 : vals 7 = .bool true := hφ 7 (hd 7 (by decide))
            simp only [wpAt, List.getElem?_toArray, List.getElem?_cons_succ, List.getElem?_cons_zero, slotOf, frOf, Act.put]
            go_wp2_with fail
            first | exact ⟨trivial, rfl, Below.refl _ _, hS⟩ | exact ⟨rfl, Below.refl _ _, hS⟩
          · have k4 : vals 4 = .bool false := hφ 4 (hd 4 (by decide))
            have k8 : vals 8 = .bool false := hφ 8 (hd 8 (by decide))
            refine wpAt_of rfl rfl ?_
            simp only [frOf, Act.put]
            go_wp2_with fail
            first | exact ⟨trivial, rfl, Below.refl _ _, hS⟩ | exact ⟨rfl, Below.refl _ _, hS⟩
          · have k9 : vals 9 = .bool false := hφ 9 (hd 9 (by decide))
            refine wpAt_of rfl rfl ?_
            simp only [frOf, Act.put]
            go_wp2_with fail
            first | exact ⟨trivial, rfl, Below.refl _ _, hS⟩ | exact ⟨rfl, Below.refl _ _, hS⟩
          · have k10 : vals 10 = .bool false := hφ 10 (hd 10 (by decide))
            have b0 := hS.cell mB (i := 0) rfl
            have b1 := hS.cell mB (i := 1) rfl
            have b2 := hS.cell mB (i := 2) rfl
            have b3 := hS.cell mB (i := 3) rfl
            dsimp only at b0 b1 b2 b3
            simp only [wpAt, List.getElem?_toArray, List.getElem?_cons_succ, List.getElem?_cons_zero, slotOf, frOf, Act.put]
            go_wp2_with fail
            first | exact ⟨trivial, rfl, Below.refl _ _, hS⟩ | exact ⟨rfl, Below.refl _ _, hS⟩
          · have k10 : vals 10 = .bool false := hφ 10 (hd 10 (by decide))
            have b0 := hS.cell mA (i := 0) rfl
            have b1 := hS.cell mA (i := 1) rfl
            have b2 := hS.cell mA (i := 2) rfl
            have b3 := hS.cell mA (i := 3) rfl
            dsimp only at b0 b1 b2 b3
            simp only [wpAt, List.getElem?_toArray, List.getElem?_cons_succ, List.getElem?_cons_zero, slotOf, frOf, Act.put]
            go_wp2_with fail
            first | exact ⟨trivial, rfl, Below.refl _ _, hS⟩ | exact ⟨rfl, Below.refl _ _, hS⟩
          · have k10 : vals 10 = .bool false := hφ 10 (hd 10 (by decide))
            have k11 : vals 11 = .agg #[.bool onB, .slice aB nB cB, .int .i64 xB, .int .i64 yB] := hφ 11 (hd 11 (by decide))
            have k12 : vals 12 = .agg #[.bool onA, .slice aA nA cA, .int .i64 xA, .int .i64 yA] := hφ 12 (hd 12 (by decide))
            simp only [wpAt, List.getElem?_toArray, List.getElem?_cons_succ, List.getElem?_cons_zero, slotOf, frOf, Act.put]
            go_wp2_with fail
            refine (joinI_is onB aB gB nB cB lB hB xB yB onA aA gA nA cA lA hA xA yA onJ nJ lJ hJ xJ yJ _ qB qA (kB.next hS.beh) (kA.next hS.beh) sK.out).mono ?_
            rintro e W' ⟨aq, gq, cpq, rfl, hq, hb⟩
            go_wp2_with fail
            first | exact ⟨trivial, ⟨aq, gq, cpq, rfl, hq⟩, hb, HX.next hb hS⟩ | exact ⟨⟨aq, gq, cpq, rfl, hq⟩, hb, HX.next hb hS⟩
          · have k10 : vals 10 = .bool false := hφ 10 (hd 10 (by decide))
            have b0 := hS.cell mJ (i := 0) rfl
            have b1 := hS.cell mJ (i := 1) rfl
            have b2 := hS.cell mJ (i := 2) rfl
            have b3 := hS.cell mJ (i := 3) rfl
            dsimp only at b0 b1 b2 b3
            simp only [wpAt, List.getElem?_toArray, List.getElem?_cons_succ, List.getElem?_cons_zero, slotOf, frOf, Act.put]
            go_wp2_with fail
            first | exact ⟨trivial, rfl, Below.refl _ _, hS⟩ | exact ⟨rfl, Below.refl _ _, hS⟩
          · have k10 : vals 10 = .bool false := hφ 10 (hd 10 (by decide))
            have k13 := (hq13 (hd 13 (by decide))).1
            have hq := (hq13 (hd 13 (by decide))).2
            have k14 : vals 14 = .agg #[.bool onJ, .slice aJ nJ cJ, .int .i64 xJ, .int .i64 yJ] := hφ 14 (hd 14 (by decide))
            simp only [wpAt, List.getElem?_toArray, List.getElem?_cons_succ, List.getElem?_cons_zero, slotOf, frOf, Act.put]
            go_wp2_with fail
            refine (owStateT onJ aq gq 0 nJ cpq lJ hJ xJ yJ aJ gJ 0 cJ _ hq (kJ.next hS.beh) qJ).mono ?_
            rintro e W' ⟨rfl, hb⟩
            go_wp2_with fail
            first | exact ⟨trivial, rfl, hb, HX.next hb hS⟩ | exact ⟨rfl, hb, HX.next hb hS⟩
          · have k10 : vals 10 = .bool false := hφ 10 (hd 10 (by decide))
            have k15 : vals 15 = .bool true := hφ 15 (hd 15 (by decide))
            simp only [wpAt, List.getElem?_toArray, List.getElem?_cons_succ, List.getElem?_cons_zero, slotOf, frOf, Act.put]
            go_wp2_with fail
            first | exact ⟨trivial, rfl, Below.refl _ _, hS⟩ | exact ⟨rfl, Below.refl _ _, hS⟩
          · have k10 : vals 10 = .bool false := hφ 10 (hd 10 (by decide))
            have k16 : vals 16 = .bool false := hφ 16 (hd 16 (by decide))
            refine wpAt_of rfl rfl ?_
            simp only [frOf, Act.put]
            go_wp2_with fail
            first | exact ⟨trivial, rfl, Below.refl _ _, hS⟩ | exact ⟨rfl, Below.refl _ _, hS⟩
        · intro L vals W hall hφ hS
          have k0 : vals 0 = .agg #[.bool onA, .slice aA nA cA, .int .i64 xA, .int .i64 yA] := hφ 0 (by decide)
          have k1 : vals 1 = .agg #[.bool onJ, .slice aJ nJ cJ, .int .i64 xJ, .int .i64 yJ] := hφ 1 (by decide)
          have k2 : vals 2 = .bool true := hφ 2 (by decide)
          have k3 : vals 3 = .bool false := hφ 3 (by decide)
          have k4 : vals 4 = .bool false := hφ 4 (by decide)
          have k5 : vals 5 = .agg #[.bool onB, .slice aB nB cB, .int .i64 xB, .int .i64 yB] := hφ 5 (by decide)
          have k6 : vals 6 = .agg #[.bool onJ, .slice aJ nJ cJ, .int .i64 xJ, .int .i64 yJ] := hφ 6 (by decide)
          have k7 : vals 7 = .bool true := hφ 7 (by decide)
          have k8 : vals 8 = .bool false := hφ 8 (by decide)
          have k9 : vals 9 = .bool false := hφ 9 (by decide)
          have k10 : vals 10 = .bool false := hφ 10 (by decide)
          have k11 : vals 11 = .agg #[.bool onB, .slice aB nB cB, .int .i64 xB, .int .i64 yB] := hφ 11 (by decide)
          have k12 : vals 12 = .agg #[.bool onA, .slice aA nA cA, .int .i64 xA, .int .i64 yA] := hφ 12 (by decide)
          obtain ⟨aq, gq, cpq, k13, _⟩ : StJ onJ nJ lJ hJ xJ yJ (vals 13) W := hφ 13 (by decide)
          have k14 : vals 14 = .agg #[.bool onJ, .slice aJ nJ cJ, .int .i64 xJ, .int .i64 yJ] := hφ 14 (by decide)
          have k15 : vals 15 = .bool true := hφ 15 (by decide)
          have k16 : vals 16 = .bool false := hφ 16 (by decide)
          have k17 : vals 17 = .bool false := hφ 17 (by decide)
          simp only [frOf, Act.put, List.setIfInBounds_toArray, List.set_cons_succ, List.set_cons_zero, k0, k1, k2, k3, k4, k5, k6, k7, k8, k9, k10, k11, k12, k13, k14, k15, k16, k17]
          clear k0 k1 k2 k3 k4 k5 k6 k7 k8 k9 k10 k11 k12 k13 k14 k15 k16 k17 hall hφ hS0
          obtain ⟨oC, hoC⟩ : ∃ q, okT ⟨onC, nC, lC, hC, xC, yC⟩ = q := ⟨_, rfl⟩
          have hoCh : Hid (okT ⟨onC, nC, lC, hC, xC, yC⟩ = oC) := hoC
          clear hoC
          have b0 := hS.cell mC (i := 0) rfl
          have b1 := hS.cell mC (i := 1) rfl
          have b2 := hS.cell mC (i := 2) rfl
          have b3 := hS.cell mC (i := 3) rfl
          dsimp only at b0 b1 b2 b3
          go_wp2_with fail
          refine (okS_is onC aC gC nC cC lC hC xC yC oC _ (kC.next hS.beh) hoCh.out).mono ?_
          rintro e w' ⟨rfl, hb⟩
          replace hS := HX.next hb hS
          clear hb b0 b1 b2 b3
          have hoC := hoCh.out
          clear hoCh
          cases oC with
          | false =>
            clear hoC lst
            go_wp2_with fail
            go_ret
            exact ⟨rfl, hS.below⟩
          | true =>
            obtain ⟨wA, hwA⟩ : ∃ q, inT ⟨onA, nA, lA, hA, xA, yA⟩ ⟨onC, nC, lC, hC, xC, yC⟩ = q := ⟨_, rfl⟩
            have hwAh : Hid (inT ⟨onA, nA, lA, hA, xA, yA⟩ ⟨onC, nC, lC, hC, xC, yC⟩ = wA) := hwA
            clear hwA
            have b0 := hS.cell mA (i := 0) rfl
            have b1 := hS.cell mA (i := 1) rfl
            have b2 := hS.cell mA (i := 2) rfl
            have b3 := hS.cell mA (i := 3) rfl
            dsimp only at b0 b1 b2 b3
            have d0 := hS.cell mC (i := 0) rfl
            have d1 := hS.cell mC (i := 1) rfl
            have d2 := hS.cell mC (i := 2) rfl
            have d3 := hS.cell mC (i := 3) rfl
            dsimp only at d0 d1 d2 d3
            go_wp2_with fail
            refine (inI_is onA aA gA nA cA lA hA xA yA onC aC gC nC cC lC hC xC yC wA _ qA qC (kA.next hS.beh) (kC.next hS.beh) hwAh.out).mono ?_
            rintro e w' ⟨rfl, hb⟩
            replace hS := HX.next hb hS
            clear hb b0 b1 b2 b3 d0 d1 d2 d3
            have hwA := hwAh.out
            clear hwAh
            cases wA with
            | false =>
              clear lst hoC hwA
              go_wp2_with fail
              go_ret
              exact ⟨rfl, hS.below⟩
            | true =>
              obtain ⟨wB, hwB⟩ : ∃ q, inT ⟨onB, nB, lB, hB, xB, yB⟩ ⟨onC, nC, lC, hC, xC, yC⟩ = q := ⟨_, rfl⟩
              have hwBh : Hid (inT ⟨onB, nB, lB, hB, xB, yB⟩ ⟨onC, nC, lC, hC, xC, yC⟩ = wB) := hwB
              clear hwB
              have b0 := hS.cell mB (i := 0) rfl
              have b1 := hS.cell mB (i := 1) rfl
              have b2 := hS.cell mB (i := 2) rfl
              have b3 := hS.cell mB (i := 3) rfl
              dsimp only at b0 b1 b2 b3
              have d0 := hS.cell mC (i := 0) rfl
              have d1 := hS.cell mC (i := 1) rfl
              have d2 := hS.cell mC (i := 2) rfl
              have d3 := hS.cell mC (i := 3) rfl
              dsimp only at d0 d1 d2 d3
              go_wp2_with fail
              refine (inI_is onB aB gB nB cB lB hB xB yB onC aC gC nC cC lC hC xC yC wB _ qB qC (kB.next hS.beh) (kC.next hS.beh) hwBh.out).mono ?_
              rintro e w' ⟨rfl, hb⟩
              replace hS := HX.next hb hS
              clear hb b0 b1 b2 b3 d0 d1 d2 d3
              have hwB := hwBh.out
              clear hwBh
              cases wB with
              | false =>
                clear lst hoC hwA hwB
                go_wp2_with fail
                go_ret
                exact ⟨rfl, hS.below⟩
              | true =>
                have iJ := lst.out hoC hwA hwB
                clear lst hoC hwA hwB
                have b0 := hS.cell mJ (i := 0) rfl
                have b1 := hS.cell mJ (i := 1) rfl
                have b2 := hS.cell mJ (i := 2) rfl
                have b3 := hS.cell mJ (i := 3) rfl
                dsimp only at b0 b1 b2 b3
                have d0 := hS.cell mC (i := 0) rfl
                have d1 := hS.cell mC (i := 1) rfl
                have d2 := hS.cell mC (i := 2) rfl
                have d3 := hS.cell mC (i := 3) rfl
                dsimp only at d0 d1 d2 d3
                go_wp2_with fail
                refine (inI_is onJ aJ gJ nJ cJ lJ hJ xJ yJ onC aC gC nC cC lC hC xC yC true _ qJ qC (kJ.next hS.beh) (kC.next hS.beh) iJ).mono ?_
                rintro e w9 ⟨rfl, hb⟩
                replace hS := HX.next hb hS
                clear hb b0 b1 b2 b3 d0 d1 d2 d3 iJ
                go_wp2_with fail
                go_ret
                exact ⟨rfl, hS.below⟩

set_option maxRecDepth 100000 in
theorem contract (H : Type) (enc : TypeId × Value → H) (W : World) (base : Nat) (args : Array Value) (ds gs : List (DataW H)) (before : List MemPlace)
    (hval : ∀ (j : Nat) t v, Try.f3.params[j]? = some t → args[j]? = some v → Value.okWide Try.prog W .any base t v)
    (hW : DataW.Whole enc Try.prog Try.f3.params.toList Rows.fnAbsJoinSpec.vars false W args.toList ds gs before) :
    Calls Try.prog 3 args W fun e W' => ∃ v, e = .returned v ∧ Rows.fnAbsJoinSpec.post enc Try.prog Try.f3 false true false false W args v W' := by
  have hW' := hW
  obtain ⟨p, q, hA0, hV, rfl, hfz, hnd⟩ := hW
  have hA : DataW.TrodAll enc Try.prog W 0 (fun _ => true) true Try.f3.params.toList args.toList ds p := hA0
  rw [Try.params3] at hA hval
  obtain ⟨v0, vs0, d0, ds0, p0, q0, hargs, rfl, rfl, h0, r0'⟩ := trodAll_cons hA
  obtain ⟨v1, vs1, d1, ds1, p1, q1, rfl, rfl, rfl, h1, r1'⟩ := trodAll_cons r0'
  obtain ⟨rfl, rfl, rfl⟩ := trodAll_nil r1'
  obtain rfl : args = #[v0, v1] := by cases args; simp_all
  obtain ⟨rfl, rfl⟩ := trodVars_none hV
  obtain ⟨a0, len0, cap0, rfl⟩ := okWide_slice Try.underlying22 (hval 0 22 v0 rfl rfl)
  have k0 := h0
  have lt0 : ∀ x ∈ p0, x.block < W.heap.size := by obtain ⟨m, hm⟩ := k0; exact DataW.trod_lt m _ _ _ hm
  obtain ⟨z0, hz0, r0⟩ : ∃ z : Nat → Int, (∀ i, 0 ≤ z i ∧ z i ≤ 255) ∧ Bytes W a0 len0 cap0 z := by
    obtain ⟨fuel, hf⟩ := h0
    rcases open_ints Try.underlying22 Try.underlying5 (by kernel_rfl) hf with ⟨hcs, _⟩ | ⟨x, l, c, zs, hcs, _, hl, hm, hz, _, hcell, hwz⟩
    · simp [Value.cells] at hcs
      obtain ⟨rfl, rfl, rfl⟩ := hcs
      exact ⟨fun _ => 0, fun _ => by simp, .inl rfl⟩
    · simp [Value.cells] at hcs
      obtain ⟨rfl, rfl, rfl⟩ := hcs
      exact bytes_of hl (by simpa using hz) hcell hwz
  obtain ⟨a1, len1, cap1, rfl⟩ := okWide_slice Try.underlying22 (hval 1 22 v1 rfl rfl)
  have k1 := h1
  have lt1 : ∀ x ∈ p1, x.block < W.heap.size := by obtain ⟨m, hm⟩ := k1; exact DataW.trod_lt m _ _ _ hm
  obtain ⟨z1, hz1, r1⟩ : ∃ z : Nat → Int, (∀ i, 0 ≤ z i ∧ z i ≤ 255) ∧ Bytes W a1 len1 cap1 z := by
    obtain ⟨fuel, hf⟩ := h1
    rcases open_ints Try.underlying22 Try.underlying5 (by kernel_rfl) hf with ⟨hcs, _⟩ | ⟨x, l, c, zs, hcs, _, hl, hm, hz, _, hcell, hwz⟩
    · simp [Value.cells] at hcs
      obtain ⟨rfl, rfl, rfl⟩ := hcs
      exact ⟨fun _ => 0, fun _ => by simp, .inl rfl⟩
    · simp [Value.cells] at hcs
      obtain ⟨rfl, rfl, rfl⟩ := hcs
      exact bytes_of hl (by simpa using hz) hcell hwz
  clear hA0
  refine (walk a0 len0 cap0 z0 a1 len1 cap1 z1 W hz0 r0 hz1 r1).mono fun e W' ⟨he, bel⟩ => ?_
  subst he
  exact ⟨_, rfl, _, _, _, [], _, [], hW', trodAll_mk1 (shut_bool Try.underlying4 _), (trodAll_cons_mk (Below.trod laidOut (by kernel_rfl) (of_decide_eq_true (by kernel_rfl)) k0 bel lt0) (trodAll_cons_mk (Below.trod laidOut (by kernel_rfl) (of_decide_eq_true (by kernel_rfl)) k1 bel lt1) trodAll_mk0)), rfl, bel.frame _, fun h => by cases h⟩

set_option maxRecDepth 100000 in
theorem lifted (os : Os) (started : os.Started) (H : Type) (enc : TypeId × Value → H) :
    ReturnsInHanded {} Try.checked os 3 .any (Rows.fnAbsJoinSpec.pre6 enc Try.prog Try.f3 Rows.fnAbsJoinRow.domain false) (Rows.fnAbsJoinSpec.post enc Try.prog Try.f3 false true false false) := by
  refine returnsInHanded_of_change (C := Try.checked) own started (by kernel_rfl) Try.func3
    (ChangeSpec.witness6 (enc := enc) (C := Try.checked) false ⟨#[], #[.slice none 0 0, .slice none 0 0], []⟩ 8 (by kernel_rfl) (by kernel_rfl) (by kernel_rfl) (by kernel_rfl)) ?_
  intro W base args ds gs before hval hW _ _
  exact contract H enc W base args ds gs before hval hW

theorem proved : Rows.FnAbsJoinSaid :=
  OpenClaim.holds_of_wide 3 Try.f3 rfl rfl rfl rfl rfl rfl rfl ⟨rfl, rfl, rfl, rfl, rfl⟩ rfl rfl rfl rfl rfl (by kernel_rfl) Try.func3 (by kernel_rfl)
    (of_decide_eq_true (by kernel_rfl)) (by unfold Func.isWrapper; first | (rw [if_pos (by decide +kernel)]; kernel_rfl) | (rw [if_neg (by decide +kernel)]; exact ⟨rfl, rfl⟩))
    (fun os started H enc _ => lifted os started H enc)
#print axioms proved
end Go.Proofs.Ytiehokibfdaleaa.fnAbsJoin
