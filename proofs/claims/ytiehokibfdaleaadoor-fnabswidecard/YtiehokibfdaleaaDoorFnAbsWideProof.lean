/- Whatever bytes are handed in, the law FnAbsWide returns true. Of more than 1048576 bytes the law itself answers true. Condition: the table of steps that the row lists holds what its initialiser lays; the card ties that to the program's text. -/
import Derived.Test.YtiehokibfdaleaaDoorG11
import Derived.Test.YtiehokibfdaleaaDoorG21
import Derived.Test.YtiehokibfdaleaaDoorG13
import Derived.Test.YtiehokibfdaleaaDoorG2
import Derived.Test.YtiehokibfdaleaaDoorG8
import Derived.Test.YtiehokibfdaleaaDoorCards
import Derived.Test.YtiehokibfdaleaaDoorTie
import Derived.Deep.RegionHeld3
import Derived.Deep.DeepCutAuto
import Derived.WalkKit
import Derived.ProofKit
import Derived.OpenShut
import Derived.ShutString
import Derived.ChangeOld
import Derived.Below
import Derived.ChangeVars
import Derived.Carry
import Derived.Deep.DeepHandedRow
import Derived.Lib.LaidTab
import Derived.LaidSub
namespace Go.Proofs.YtiehokibfdaleaaDoor.fnAbsWide
open Go.ChangeShapes Go.WideShapes Go.ChangeAt Go.RowKit
open Go.ChangeMaps (open_string shut_string)
set_option linter.unusedVariables false

theorem own : ownKnob Tryd.prog.godebug = none := by kernel_rfl
theorem laidOut : laidOutB Tryd.prog = true := by kernel_rfl
theorem gVar : Tryd.prog.globalNamed "loop.example/outwork/impl.wideSteps" = some 0 := by kernel_rfl
theorem gVarType : (Tryd.prog.globals[0]?).map (·.type) = some 62 := by kernel_rfl
theorem cellsVar : Tryd.prog.cellsOf 62 = 11 := by kernel_rfl
theorem cellsVarOne : Tryd.prog.cellsOf 3 = 1 := by kernel_rfl
theorem varTable {W : World} (h : laidMetH Tryd.prog Rows.fnAbsWideRow.laid W) : Lib.TabIs Tryd.prog W "loop.example/outwork/impl.wideSteps" .i64 [-32768, -1000, -100, -10, -1, 0, 1, 10, 100, 1000, 32767] := by
  have h1 := h.filter (fun x => x.1 == "loop.example/outwork/impl.wideSteps")
  have e : Rows.fnAbsWideRow.laid.filter (fun x => x.1 == "loop.example/outwork/impl.wideSteps") = [("loop.example/outwork/impl.wideSteps", Lib.tabData .i64 [-32768, -1000, -100, -10, -1, 0, 1, 10, 100, 1000, 32767])] := by kernel_rfl
  rw [e] at h1
  exact Lib.tabIs_of_head (rest := []) gVar gVarType Tryd.underlying62 Tryd.underlying3 cellsVarOne cellsVar h1
theorem varStays {W W' : World} {cs : Array Value} (h : W.var? Tryd.prog "loop.example/outwork/impl.wideSteps" = some cs) (hb : Below W.heap.size W W') : W'.var? Tryd.prog "loop.example/outwork/impl.wideSteps" = some cs := by
  unfold World.var? at *
  rw [gVar] at h ⊢
  simp only [Option.bind_some] at h ⊢
  have hlt : 0 < W.heap.size := by
    rcases Nat.lt_or_ge 0 W.heap.size with h' | h'
    · exact h'
    · rw [Array.getElem?_eq_none h'] at h; simp at h
  rw [hb.block _ hlt]
  exact h

theorem owOkA (w : World) : Calls Tryd.prog 9 #[] w fun e w' => e = .returned (.bool true) ∧ w' = w := by
  go_enter Tryd.func9, Tryd.ntmps9
  go_wp2_with (go_at_call 22; refine (okI _ _).mono ?_; rintro e w' ⟨rfl, rfl⟩)
  go_ret
  exact ⟨rfl, rfl⟩

set_option maxRecDepth 10000 in
set_option maxHeartbeats 60000000 in
theorem walk (a0 : Option Addr) (len0 cap0 : Nat) (z0 : Nat → Int) (w : World) (hz0 : ∀ i, 0 ≤ z0 i ∧ z0 i ≤ 255) (r0 : Bytes w a0 len0 cap0 z0) (hvar : Lib.TabIs Tryd.prog w "loop.example/outwork/impl.wideSteps" .i64 [-32768, -1000, -100, -10, -1, 0, 1, 10, 100, 1000, 32767]) :
    Calls Tryd.prog 3 #[.slice a0 len0 cap0] w fun e w' => e = .returned (.bool true) ∧ Below w.heap.size w w' := by
  by_cases hl0 : len0 ≤ 1048576
  case neg =>
    have hi : (1048576 : Int) < (len0 : Int) := by omega
    go_enter Tryd.func3, Tryd.ntmps3
    go_wp2_with fail
    go_ret
    exact ⟨rfl, Below.refl _ _⟩
  have hi0 : ¬ (1048576 : Int) < (len0 : Int) := by omega
  go_enter Tryd.func3, Tryd.ntmps3
  go_wp2_with fail
  refine (drawAbsWide a0 len0 cap0 z0 _ hz0 hl0 r0).mono ?_
  rintro e w1 ⟨v1, v2, d1, d2, rfl, b1⟩
  have ed1 := d1
  obtain ⟨onA, aA, _, nA, cA, _, xA, yA, rfl, _, _, _⟩ := ed1
  obtain ⟨gA, lA, hA, EA⟩ := d1.told
  have ed2 := d2
  obtain ⟨onB, aB, _, nB, cB, _, xB, yB, rfl, _, _, _⟩ := ed2
  obtain ⟨gB, lB, hB, EB⟩ := d2.told
  have H1 : HeldL w [(w1.heap.size + 1, [Value.bool onB, .slice aB nB cB, .int .i64 xB, .int .i64 yB]), (w1.heap.size, [Value.bool onA, .slice aA nA cA, .int .i64 xA, .int .i64 yA])] ((w1.alloc (.cells #[.bool onA, .slice aA nA cA, .int .i64 xA, .int .i64 yA] 27)).alloc (.cells #[.bool onB, .slice aB nB cB, .int .i64 xB, .int .i64 yB] 27)) := by
    have e1 : w1.heap.size + 1 = (w1.alloc (.cells #[.bool onA, .slice aA nA cA, .int .i64 xA, .int .i64 yA] 27)).heap.size := by simp
    rw [e1]
    exact HeldL.newL (vs := [Value.bool onB, .slice aB nB cB, .int .i64 xB, .int .i64 yB]) (HeldL.newL (vs := [Value.bool onA, .slice aA nA cA, .int .i64 xA, .int .i64 yA]) ((HeldL.nil w).next b1))
  have bb1 : Below w1.heap.size w1 ((w1.alloc (.cells #[.bool onA, .slice aA nA cA, .int .i64 xA, .int .i64 yA] 27)).alloc (.cells #[.bool onB, .slice aB nB cB, .int .i64 xB, .int .i64 yB] 27)) := ((Below.refl _ _).alloc (Nat.le_refl _) _).alloc (by simp) _
  have kA := EA.at_.next bb1
  have kB := EB.at_.next bb1
  have qA : nA ≤ 1048576 := by have := EA.le; omega
  have qB : nB ≤ 1048576 := by have := EB.le; omega
  have hst : StepsIn w := hvar
  have hst1 := steps_below hst H1.below
  clear d1 d2 EA EB b1 r0 bb1
  have p0 := H1.cell (e := (w1.heap.size, [Value.bool onA, .slice aA nA cA, .int .i64 xA, .int .i64 yA])) (by simp) (i := 0) rfl
  have p1 := H1.cell (e := (w1.heap.size, [Value.bool onA, .slice aA nA cA, .int .i64 xA, .int .i64 yA])) (by simp) (i := 1) rfl
  have p2 := H1.cell (e := (w1.heap.size, [Value.bool onA, .slice aA nA cA, .int .i64 xA, .int .i64 yA])) (by simp) (i := 2) rfl
  have p3 := H1.cell (e := (w1.heap.size, [Value.bool onA, .slice aA nA cA, .int .i64 xA, .int .i64 yA])) (by simp) (i := 3) rfl
  have p4 := H1.cell (e := (w1.heap.size + 1, [Value.bool onB, .slice aB nB cB, .int .i64 xB, .int .i64 yB])) (by simp) (i := 0) rfl
  have p5 := H1.cell (e := (w1.heap.size + 1, [Value.bool onB, .slice aB nB cB, .int .i64 xB, .int .i64 yB])) (by simp) (i := 1) rfl
  have p6 := H1.cell (e := (w1.heap.size + 1, [Value.bool onB, .slice aB nB cB, .int .i64 xB, .int .i64 yB])) (by simp) (i := 2) rfl
  have p7 := H1.cell (e := (w1.heap.size + 1, [Value.bool onB, .slice aB nB cB, .int .i64 xB, .int .i64 yB])) (by simp) (i := 3) rfl
  dsimp only at p0 p1 p2 p3 p4 p5 p6 p7
  obtain ⟨onJ, nJ, lJ, hJ, xJ, yJ, eJ⟩ : ∃ on n lo hi c d, mixS wideLo wideHi ⟨onA, nA, lA, hA, xA, yA⟩ ⟨onB, nB, lB, hB, xB, yB⟩ = (⟨on, n, lo, hi, c, d⟩ : St) := ⟨_, _, _, _, _, _, rfl⟩
  have sJ : Hid (SameS (mixS wideLo wideHi ⟨onA, nA, lA, hA, xA, yA⟩ ⟨onB, nB, lB, hB, xB, yB⟩) ⟨onJ, nJ, lJ, hJ, xJ, yJ⟩) := show SameS _ _ by rw [eJ]; exact ⟨rfl, rfl, rfl, rfl, fun _ _ => ⟨rfl, rfl⟩⟩
  have qJ : nJ ≤ 1048576 := by have := mixS_le (f := wideLo) (g := wideHi) (s := ⟨onA, nA, lA, hA, xA, yA⟩) (t := ⟨onB, nB, lB, hB, xB, yB⟩); rw [eJ] at this; dsimp only at this; omega
  go_wp2_with fail
  refine (mixW_I onA aA gA nA cA lA hA xA yA onB aB gB nB cB lB hB xB yB onJ nJ lJ hJ xJ yJ _ hst1 qA qB kA kB sJ.out).mono ?_
  rintro e w3 ⟨aJ, gJ, cJ, rfl, kJ, b3⟩
  obtain ⟨W1, hW1⟩ : ∃ W, W = (w1.alloc (.cells #[.bool onA, .slice aA nA cA, .int .i64 xA, .int .i64 yA] 27)).alloc (.cells #[.bool onB, .slice aB nB cB, .int .i64 xB, .int .i64 yB] 27) := ⟨_, rfl⟩
  rw [← hW1] at H1 kA kB b3
  have bb3 : Below w3.heap.size w3 (w3.alloc (.cells #[.bool onJ, .slice aJ nJ cJ, .int .i64 xJ, .int .i64 yJ] 27)) := (Below.refl _ _).alloc (Nat.le_refl _) _
  replace kA := (kA.next b3).next bb3
  replace kB := (kB.next b3).next bb3
  replace kJ := kJ.next bb3
  have H3 := HeldL.newL (vs := [Value.bool onJ, .slice aJ nJ cJ, .int .i64 xJ, .int .i64 yJ]) (t := 27) (HeldL.next b3 H1)
  clear H1 hW1 b3 bb3 p0 p1 p2 p3 p4 p5 p6 p7 hst1
  obtain ⟨XA, hXA⟩ : ∃ X, X = w1.heap.size := ⟨_, rfl⟩
  obtain ⟨XB, hXB⟩ : ∃ X, X = w1.heap.size + 1 := ⟨_, rfl⟩
  obtain ⟨XJ, hXJ⟩ : ∃ X, X = w3.heap.size := ⟨_, rfl⟩
  obtain ⟨wz, hwz'⟩ : ∃ W, W = w3.alloc (.cells #[.bool onJ, .slice aJ nJ cJ, .int .i64 xJ, .int .i64 yJ] 27) := ⟨_, rfl⟩
  rw [← hwz'] at H3 kA kB kJ
  rw [← hXB, ← hXA, ← hXJ] at H3
  obtain ⟨Lb, hLb⟩ : ∃ L, L = [(XJ, [Value.bool onJ, .slice aJ nJ cJ, .int .i64 xJ, .int .i64 yJ]), (XB, [Value.bool onB, .slice aB nB cB, .int .i64 xB, .int .i64 yB]), (XA, [Value.bool onA, .slice aA nA cA, .int .i64 xA, .int .i64 yA])] := ⟨_, rfl⟩
  rw [← hLb] at H3
  have mA : (XA, [Value.bool onA, .slice aA nA cA, .int .i64 xA, .int .i64 yA]) ∈ Lb := by rw [hLb]; simp
  have mB : (XB, [Value.bool onB, .slice aB nB cB, .int .i64 xB, .int .i64 yB]) ∈ Lb := by rw [hLb]; simp
  have mJ : (XJ, [Value.bool onJ, .slice aJ nJ cJ, .int .i64 xJ, .int .i64 yJ]) ∈ Lb := by rw [hLb]; simp
  have hXAh : Hid (XA = w1.heap.size) := hXA
  have hXBh : Hid (XB = w1.heap.size + 1) := hXB
  have hXJh : Hid (XJ = w3.heap.size) := hXJ
  have hwh : Hid (wz = w3.alloc (.cells #[.bool onJ, .slice aJ nJ cJ, .int .i64 xJ, .int .i64 yJ] 27)) := hwz'
  have hwz : Below w.heap.size w wz := H3.below
  clear hXA hXB hXJ hwz' hLb
  have hS0 : HX w wz Lb wz.drew := ⟨HeldL.drew H3, (Below.refl _ wz).drew⟩
  clear H3
  go_wp2_with fail
  rw [← hwh.out, ← hXBh.out, ← hXAh.out, ← hXJh.out]
  clear hXAh hXBh hXJh hwh
  refine region_inv3 [(0, 17), (1, 18), (2, 19), (3, 20), (4, 21), (5, 22)]
    (fun j v W => match j with
      | 0 => Is (.agg #[.bool onJ, .slice aJ nJ cJ, .int .i64 xJ, .int .i64 yJ]) v
      | 1 => Is (.agg #[.bool onA, .slice aA nA cA, .int .i64 xA, .int .i64 yA]) v
      | 2 => Is (.agg #[.bool onB, .slice aB nB cB, .int .i64 xB, .int .i64 yB]) v
      | 3 => StJ onJ nJ lJ hJ xJ yJ v W
      | 4 => Is (.bool true) v
      | 5 => Is (.bool false) v
      | _ => True)
    (fun _ W => HX w wz Lb W) TX
    (by kernel_rfl) (by kernel_rfl) (by kernel_rfl) (by kernel_rfl) (by kernel_rfl) rfl hS0 ?_ ?_ ?_
  · intro i j v W W' hji hφ hT
    match j, hφ with
    | 0, hφ => exact hφ
    | 1, hφ => exact hφ
    | 2, hφ => exact hφ
    | 3, hφ => exact hφ.next hT
    | 4, hφ => exact hφ
    | 5, hφ => exact hφ
    | _ + 6, _ => trivial
  · intro i L vals W hi' hφ hS hL hd
    have hi2 : i < 6 := hi'
    clear hi'
    obtain ⟨aq3, gq3, cq3, hq3⟩ : ∃ (aq : Option Addr) (gq cpq : Nat), L 3 = true → vals 3 = .agg #[.bool onJ, .slice aq nJ cpq, .int .i64 xJ, .int .i64 yJ] ∧ BndsAt aq gq 0 nJ lJ hJ W := by
      by_cases h : L 3 = true
      · obtain ⟨aq, gq, cpq, h1, h2⟩ : StJ onJ nJ lJ hJ xJ yJ (vals 3) W := hφ 3 h
        exact ⟨aq, gq, cpq, fun _ => ⟨h1, h2⟩⟩
      · exact ⟨none, 0, 0, fun h' => absurd h' h⟩
    rcases (show i = 0 ∨ i = 1 ∨ i = 2 ∨ i = 3 ∨ i = 4 ∨ i = 5 by omega) with rfl | rfl | rfl | rfl | rfl | rfl
    · have b0 := hS.cell mJ (i := 0) rfl
      have b1 := hS.cell mJ (i := 1) rfl
      have b2 := hS.cell mJ (i := 2) rfl
      have b3 := hS.cell mJ (i := 3) rfl
      dsimp only at b0 b1 b2 b3
      refine wpAt_of rfl rfl ?_
      simp only [frOf, Act.put]
      go_wp2_with fail
      first | exact ⟨trivial, rfl, Below.refl _ _, hS⟩ | exact ⟨rfl, Below.refl _ _, hS⟩
    · have b0 := hS.cell mA (i := 0) rfl
      have b1 := hS.cell mA (i := 1) rfl
      have b2 := hS.cell mA (i := 2) rfl
      have b3 := hS.cell mA (i := 3) rfl
      dsimp only at b0 b1 b2 b3
      refine wpAt_of rfl rfl ?_
      simp only [frOf, Act.put]
      go_wp2_with fail
      first | exact ⟨trivial, rfl, Below.refl _ _, hS⟩ | exact ⟨rfl, Below.refl _ _, hS⟩
    · have b0 := hS.cell mB (i := 0) rfl
      have b1 := hS.cell mB (i := 1) rfl
      have b2 := hS.cell mB (i := 2) rfl
      have b3 := hS.cell mB (i := 3) rfl
      dsimp only at b0 b1 b2 b3
      refine wpAt_of rfl rfl ?_
      simp only [frOf, Act.put]
      go_wp2_with fail
      first | exact ⟨trivial, rfl, Below.refl _ _, hS⟩ | exact ⟨rfl, Below.refl _ _, hS⟩
    · have k1 : vals 1 = .agg #[.bool onA, .slice aA nA cA, .int .i64 xA, .int .i64 yA] := hφ 1 (hd 1 (by decide))
      have k2 : vals 2 = .agg #[.bool onB, .slice aB nB cB, .int .i64 xB, .int .i64 yB] := hφ 2 (hd 2 (by decide))
      refine wpAt_of rfl rfl ?_
      simp only [frOf, Act.put]
      go_wp2_with fail
      refine (mixW_S onA aA gA nA cA lA hA xA yA onB aB gB nB cB lB hB xB yB onJ nJ lJ hJ xJ yJ _ (kA.next hS.beh) (kB.next hS.beh) sJ.out).mono ?_
      rintro e W' ⟨aq, gq, cpq, rfl, hq, hb⟩
      go_wp2_with fail
      first | exact ⟨trivial, ⟨aq, gq, cpq, rfl, hq⟩, hb, HX.next hb hS⟩ | exact ⟨⟨aq, gq, cpq, rfl, hq⟩, hb, HX.next hb hS⟩
    · have k0 : vals 0 = .agg #[.bool onJ, .slice aJ nJ cJ, .int .i64 xJ, .int .i64 yJ] := hφ 0 (hd 0 (by decide))
      have k3 := (hq3 (hd 3 (by decide))).1
      have hq3' := (hq3 (hd 3 (by decide))).2
      refine wpAt_of rfl rfl ?_
      simp only [frOf, Act.put]
      go_wp2_with fail
      refine (owStateT onJ aJ gJ 0 nJ cJ lJ hJ xJ yJ aq3 gq3 0 cq3 _ (kJ.next hS.beh) hq3' qJ).mono ?_
      rintro e W' ⟨rfl, hb⟩
      go_wp2_with fail
      first | exact ⟨trivial, rfl, hb, HX.next hb hS⟩ | exact ⟨rfl, hb, HX.next hb hS⟩
    · have k4 : vals 4 = .bool true := hφ 4 (hd 4 (by decide))
      refine wpAt_of rfl rfl ?_
      simp only [frOf, Act.put]
      go_wp2_with fail
      first | exact ⟨trivial, rfl, Below.refl _ _, hS⟩ | exact ⟨rfl, Below.refl _ _, hS⟩
  · intro L vals W hall hφ hS
    have k0 : vals 0 = .agg #[.bool onJ, .slice aJ nJ cJ, .int .i64 xJ, .int .i64 yJ] := hφ 0 (by decide)
    have k1 : vals 1 = .agg #[.bool onA, .slice aA nA cA, .int .i64 xA, .int .i64 yA] := hφ 1 (by decide)
    have k2 : vals 2 = .agg #[.bool onB, .slice aB nB cB, .int .i64 xB, .int .i64 yB] := hφ 2 (by decide)
    obtain ⟨aq3, gq3, cq3, k3, _⟩ : StJ onJ nJ lJ hJ xJ yJ (vals 3) W := hφ 3 (by decide)
    have k4 : vals 4 = .bool true := hφ 4 (by decide)
    have k5 : vals 5 = .bool false := hφ 5 (by decide)
    simp only [frOf, Act.put, List.setIfInBounds_toArray, List.set_cons_succ, List.set_cons_zero, k0, k1, k2, k3, k4, k5]
    clear k0 k1 k2 k3 k4 k5 hall hφ hS0
    obtain ⟨oA, hoA⟩ : ∃ q, okT ⟨onA, nA, lA, hA, xA, yA⟩ = q := ⟨_, rfl⟩
    have hoAh : Hid (okT ⟨onA, nA, lA, hA, xA, yA⟩ = oA) := hoA
    clear hoA
    have b0 := hS.cell mA (i := 0) rfl
    have b1 := hS.cell mA (i := 1) rfl
    have b2 := hS.cell mA (i := 2) rfl
    have b3 := hS.cell mA (i := 3) rfl
    dsimp only at b0 b1 b2 b3
    go_wp2_with fail
    refine (okS_is onA aA gA nA cA lA hA xA yA oA _ (kA.next hS.beh) hoAh.out).mono ?_
    rintro e w' ⟨rfl, hb⟩
    replace hS := HX.next hb hS
    clear hb b0 b1 b2 b3
    have hoA := hoAh.out
    clear hoAh
    cases oA with
    | false =>
      obtain rfl : onJ = false := by have := mixS_bad (f := wideLo) (g := wideHi) (s := ⟨onA, nA, lA, hA, xA, yA⟩) (t := ⟨onB, nB, lB, hB, xB, yB⟩) (by rw [hoA]; rfl); rw [eJ] at this; exact this
      have b0 := hS.cell mJ (i := 0) rfl
      have b1 := hS.cell mJ (i := 1) rfl
      have b2 := hS.cell mJ (i := 2) rfl
      have b3 := hS.cell mJ (i := 3) rfl
      dsimp only at b0 b1 b2 b3
      clear eJ sJ hoA
      go_wp2_with (first | (go_at_call 9; refine (owOkA _).mono ?_; rintro e w' ⟨rfl, rfl⟩))
      go_ret
      exact ⟨rfl, hS.below⟩
    | true =>
      obtain ⟨oB, hoB⟩ : ∃ q, okT ⟨onB, nB, lB, hB, xB, yB⟩ = q := ⟨_, rfl⟩
      have hoBh : Hid (okT ⟨onB, nB, lB, hB, xB, yB⟩ = oB) := hoB
      clear hoB
      have b0 := hS.cell mB (i := 0) rfl
      have b1 := hS.cell mB (i := 1) rfl
      have b2 := hS.cell mB (i := 2) rfl
      have b3 := hS.cell mB (i := 3) rfl
      dsimp only at b0 b1 b2 b3
      go_wp2_with fail
      refine (okS_is onB aB gB nB cB lB hB xB yB oB _ (kB.next hS.beh) hoBh.out).mono ?_
      rintro e w' ⟨rfl, hb⟩
      replace hS := HX.next hb hS
      clear hb b0 b1 b2 b3
      have hoB := hoBh.out
      clear hoBh
      cases oB with
      | false =>
        obtain rfl : onJ = false := by have := mixS_bad (f := wideLo) (g := wideHi) (s := ⟨onA, nA, lA, hA, xA, yA⟩) (t := ⟨onB, nB, lB, hB, xB, yB⟩) (by rw [hoA, hoB]; rfl); rw [eJ] at this; exact this
        have b0 := hS.cell mJ (i := 0) rfl
        have b1 := hS.cell mJ (i := 1) rfl
        have b2 := hS.cell mJ (i := 2) rfl
        have b3 := hS.cell mJ (i := 3) rfl
        dsimp only at b0 b1 b2 b3
        clear eJ sJ hoA hoB
        go_wp2_with (first | (go_at_call 9; refine (owOkA _).mono ?_; rintro e w' ⟨rfl, rfl⟩))
        go_ret
        exact ⟨rfl, hS.below⟩
      | true =>
        have jA := (mixS_has wide_grows hoA hoB).1
        have jB := (mixS_has wide_grows hoA hoB).2
        have jO := mixS_ok wide_grows hoA hoB
        rw [eJ] at jA jB jO
        have iA : Hid (inT ⟨onA, nA, lA, hA, xA, yA⟩ ⟨onJ, nJ, lJ, hJ, xJ, yJ⟩ = true) := jA
        have iB : Hid (inT ⟨onB, nB, lB, hB, xB, yB⟩ ⟨onJ, nJ, lJ, hJ, xJ, yJ⟩ = true) := jB
        obtain ⟨onM, nM, lM, hM, xM, yM, eM⟩ : ∃ on n lo hi c d, mixS joinLo joinHi ⟨onA, nA, lA, hA, xA, yA⟩ ⟨onB, nB, lB, hB, xB, yB⟩ = (⟨on, n, lo, hi, c, d⟩ : St) := ⟨_, _, _, _, _, _, rfl⟩
        have sM : Hid (SameS (mixS joinLo joinHi ⟨onA, nA, lA, hA, xA, yA⟩ ⟨onB, nB, lB, hB, xB, yB⟩) ⟨onM, nM, lM, hM, xM, yM⟩) := show SameS _ _ by rw [eM]; exact ⟨rfl, rfl, rfl, rfl, fun _ _ => ⟨rfl, rfl⟩⟩
        have qM : nM ≤ 1048576 := by have := mixS_le (f := joinLo) (g := joinHi) (s := ⟨onA, nA, lA, hA, xA, yA⟩) (t := ⟨onB, nB, lB, hB, xB, yB⟩); rw [eM] at this; dsimp only at this; omega
        have iM : Hid (inT ⟨onM, nM, lM, hM, xM, yM⟩ ⟨onJ, nJ, lJ, hJ, xJ, yJ⟩ = true) := show _ = _ by rw [← eM]; exact join_least hoA hoB jO jA jB
        have sX : Hid (SameS (mixS wideLo wideHi ⟨onJ, nJ, lJ, hJ, xJ, yJ⟩ ⟨onB, nB, lB, hB, xB, yB⟩) ⟨onJ, nJ, lJ, hJ, xJ, yJ⟩) := wide_rest jO hoB jB
        have sB : Hid (SameS (mixS wideLo wideHi ⟨false, 0, fun _ => 0, fun _ => 0, 0, 0⟩ ⟨onB, nB, lB, hB, xB, yB⟩) ⟨onB, nB, lB, hB, xB, yB⟩) := wide_none _ _ hoB
        clear eJ eM hoA hoB sJ jA jB jO
        have hS0 := hS.drew
        clear hS
        go_wp2_with fail
        refine region_inv3 [(0, 37), (1, 38), (2, 39), (3, 40), (4, 41), (5, 42), (6, 43), (7, 44), (8, 45), (9, 46), (10, 47), (11, 48), (12, 49), (13, 50), (14, 51), (15, 52), (16, 53), (17, 54), (18, 55), (19, 56), (20, 57), (21, 58), (22, 59), (23, 60), (24, 61), (25, 62), (26, 63), (27, 64), (28, 65), (29, 2)]
          (fun j v W => match j with
            | 0 => Is (.agg #[.bool onA, .slice aA nA cA, .int .i64 xA, .int .i64 yA]) v
            | 1 => Is (.agg #[.bool onJ, .slice aJ nJ cJ, .int .i64 xJ, .int .i64 yJ]) v
            | 2 => Is (.bool true) v
            | 3 => Is (.bool true) v
            | 4 => Is (.agg #[.bool onB, .slice aB nB cB, .int .i64 xB, .int .i64 yB]) v
            | 5 => Is (.agg #[.bool onJ, .slice aJ nJ cJ, .int .i64 xJ, .int .i64 yJ]) v
            | 6 => Is (.bool true) v
            | 7 => Is (.bool true) v
            | 8 => Is (.bool true) v
            | 9 => Is (.agg #[.bool onA, .slice aA nA cA, .int .i64 xA, .int .i64 yA]) v
            | 10 => Is (.agg #[.bool onB, .slice aB nB cB, .int .i64 xB, .int .i64 yB]) v
            | 11 => StJ onM nM lM hM xM yM v W
            | 12 => Is (.agg #[.bool onJ, .slice aJ nJ cJ, .int .i64 xJ, .int .i64 yJ]) v
            | 13 => Is (.bool true) v
            | 14 => Is (.bool true) v
            | 15 => Is (.bool true) v
            | 16 => Is (.agg #[.bool onJ, .slice aJ nJ cJ, .int .i64 xJ, .int .i64 yJ]) v
            | 17 => Is (.agg #[.bool onB, .slice aB nB cB, .int .i64 xB, .int .i64 yB]) v
            | 18 => StJ onJ nJ lJ hJ xJ yJ v W
            | 19 => Is (.agg #[.bool onJ, .slice aJ nJ cJ, .int .i64 xJ, .int .i64 yJ]) v
            | 20 => Is (.bool true) v
            | 21 => Is (.bool true) v
            | 22 => Is (.bool true) v
            | 23 => Is (.agg #[.bool false, .slice none 0 0, .int .i64 0, .int .i64 0]) v
            | 24 => Is (.agg #[.bool onB, .slice aB nB cB, .int .i64 xB, .int .i64 yB]) v
            | 25 => StJ onB nB lB hB xB yB v W
            | 26 => Is (.agg #[.bool onB, .slice aB nB cB, .int .i64 xB, .int .i64 yB]) v
            | 27 => Is (.bool true) v
            | 28 => Is (.bool true) v
            | 29 => Is (.bool true) v
            | _ => True)
          (fun _ W => HX w wz Lb W) TX
          (by kernel_rfl) (by kernel_rfl) (by kernel_rfl) (by kernel_rfl) (by kernel_rfl) rfl hS0 ?_ ?_ ?_
        · intro i j v W W' hji hφ hT
          match j, hφ with
          | 0, hφ => exact hφ
          | 1, hφ => exact hφ
          | 2, hφ => exact hφ
          | 3, hφ => exact hφ
          | 4, hφ => exact hφ
          | 5, hφ => exact hφ
          | 6, hφ => exact hφ
          | 7, hφ => exact hφ
          | 8, hφ => exact hφ
          | 9, hφ => exact hφ
          | 10, hφ => exact hφ
          | 11, hφ => exact hφ.next hT
          | 12, hφ => exact hφ
          | 13, hφ => exact hφ
          | 14, hφ => exact hφ
          | 15, hφ => exact hφ
          | 16, hφ => exact hφ
          | 17, hφ => exact hφ
          | 18, hφ => exact hφ.next hT
          | 19, hφ => exact hφ
          | 20, hφ => exact hφ
          | 21, hφ => exact hφ
          | 22, hφ => exact hφ
          | 23, hφ => exact hφ
          | 24, hφ => exact hφ
          | 25, hφ => exact hφ.next hT
          | 26, hφ => exact hφ
          | 27, hφ => exact hφ
          | 28, hφ => exact hφ
          | 29, hφ => exact hφ
          | _ + 30, _ => trivial
        · intro i L vals W hi' hφ hS hL hd
          have hi2 : i < 30 := hi'
          clear hi'
          obtain ⟨aq11, gq11, cq11, hq11⟩ : ∃ (aq : Option Addr) (gq cpq : Nat), L 11 = true → vals 11 = .agg #[.bool onM, .slice aq nM cpq, .int .i64 xM, .int .i64 yM] ∧ BndsAt aq gq 0 nM lM hM W := by
            by_cases h : L 11 = true
            · obtain ⟨aq, gq, cpq, h1, h2⟩ : StJ onM nM lM hM xM yM (vals 11) W := hφ 11 h
              exact ⟨aq, gq, cpq, fun _ => ⟨h1, h2⟩⟩
            · exact ⟨none, 0, 0, fun h' => absurd h' h⟩
          obtain ⟨aq18, gq18, cq18, hq18⟩ : ∃ (aq : Option Addr) (gq cpq : Nat), L 18 = true → vals 18 = .agg #[.bool onJ, .slice aq nJ cpq, .int .i64 xJ, .int .i64 yJ] ∧ BndsAt aq gq 0 nJ lJ hJ W := by
            by_cases h : L 18 = true
            · obtain ⟨aq, gq, cpq, h1, h2⟩ : StJ onJ nJ lJ hJ xJ yJ (vals 18) W := hφ 18 h
              exact ⟨aq, gq, cpq, fun _ => ⟨h1, h2⟩⟩
            · exact ⟨none, 0, 0, fun h' => absurd h' h⟩
          obtain ⟨aq25, gq25, cq25, hq25⟩ : ∃ (aq : Option Addr) (gq cpq : Nat), L 25 = true → vals 25 = .agg #[.bool onB, .slice aq nB cpq, .int .i64 xB, .int .i64 yB] ∧ BndsAt aq gq 0 nB lB hB W := by
            by_cases h : L 25 = true
            · obtain ⟨aq, gq, cpq, h1, h2⟩ : StJ onB nB lB hB xB yB (vals 25) W := hφ 25 h
              exact ⟨aq, gq, cpq, fun _ => ⟨h1, h2⟩⟩
            · exact ⟨none, 0, 0, fun h' => absurd h' h⟩
          rcases (show i = 0 ∨ i = 1 ∨ i = 2 ∨ i = 3 ∨ i = 4 ∨ i = 5 ∨ i = 6 ∨ i = 7 ∨ i = 8 ∨ i = 9 ∨ i = 10 ∨ i = 11 ∨ i = 12 ∨ i = 13 ∨ i = 14 ∨ i = 15 ∨ i = 16 ∨ i = 17 ∨ i = 18 ∨ i = 19 ∨ i = 20 ∨ i = 21 ∨ i = 22 ∨ i = 23 ∨ i = 24 ∨ i = 25 ∨ i = 26 ∨ i = 27 ∨ i = 28 ∨ i = 29 by omega) with rfl | rfl | rfl | rfl | rfl | rfl | rfl | rfl | rfl | rfl | rfl | rfl | rfl | rfl | rfl | rfl | rfl | rfl | rfl | rfl | rfl | rfl | rfl | rfl | rfl | rfl | rfl | rfl | rfl | rfl
          · have b0 := hS.cell mA (i := 0) rfl
            have b1 := hS.cell mA (i := 1) rfl
            have b2 := hS.cell mA (i := 2) rfl
            have b3 := hS.cell mA (i := 3) rfl
            dsimp only at b0 b1 b2 b3
            refine wpAt_of rfl rfl ?_
            simp only [frOf, Act.put]
            go_wp2_with fail
            first | exact ⟨trivial, rfl, Below.refl _ _, hS⟩ | exact ⟨rfl, Below.refl _ _, hS⟩
          · have b0 := hS.cell mJ (i := 0) rfl
            have b1 := hS.cell mJ (i := 1) rfl
            have b2 := hS.cell mJ (i := 2) rfl
            have b3 := hS.cell mJ (i := 3) rfl
            dsimp only at b0 b1 b2 b3
            refine wpAt_of rfl rfl ?_
            simp only [frOf, Act.put]
            go_wp2_with fail
            first | exact ⟨trivial, rfl, Below.refl _ _, hS⟩ | exact ⟨rfl, Below.refl _ _, hS⟩
          · have k0 : vals 0 = .agg #[.bool onA, .slice aA nA cA, .int .i64 xA, .int .i64 yA] := hφ 0 (hd 0 (by decide))
            have k1 : vals 1 = .agg #[.bool onJ, .slice aJ nJ cJ, .int .i64 xJ, .int .i64 yJ] := hφ 1 (hd 1 (by decide))
            refine wpAt_of rfl rfl ?_
            simp only [frOf, Act.put]
            go_wp2_with fail
            refine (inI_is onA aA gA nA cA lA hA xA yA onJ aJ gJ nJ cJ lJ hJ xJ yJ true _ qA qJ (kA.next hS.beh) (kJ.next hS.beh) iA.out).mono ?_
            rintro e W' ⟨rfl, hb⟩
            go_wp2_with fail
            first | exact ⟨trivial, rfl, hb, HX.next hb hS⟩ | exact ⟨rfl, hb, HX.next hb hS⟩
          · have k2 : vals 2 = .bool true := hφ 2 (hd 2 (by decide))
            refine wpAt_of rfl rfl ?_
            simp only [frOf, Act.put]
            go_wp2_with fail
            first | exact ⟨trivial, rfl, Below.refl _ _, hS⟩ | exact ⟨rfl, Below.refl _ _, hS⟩
          · have k3 : vals 3 = .bool true := hφ 3 (hd 3 (by decide))
            have b0 := hS.cell mB (i := 0) rfl
            have b1 := hS.cell mB (i := 1) rfl
            have b2 := hS.cell mB (i := 2) rfl
            have b3 := hS.cell mB (i := 3) rfl
            dsimp only at b0 b1 b2 b3
            simp only [wpAt, List.getElem?_toArray, List.getElem?_cons_succ, List.getElem?_cons_zero, slotOf, frOf, Act.put]
            go_wp2_with fail
            first | exact ⟨trivial, rfl, Below.refl _ _, hS⟩ | exact ⟨rfl, Below.refl _ _, hS⟩
          · have k3 : vals 3 = .bool true := hφ 3 (hd 3 (by decide))
            have b0 := hS.cell mJ (i := 0) rfl
            have b1 := hS.cell mJ (i := 1) rfl
            have b2 := hS.cell mJ (i := 2) rfl
            have b3 := hS.cell mJ (i := 3) rfl
            dsimp only at b0 b1 b2 b3
            simp only [wpAt, List.getElem?_toArray, List.getElem?_cons_succ, List.getElem?_cons_zero, slotOf, frOf, Act.put]
            go_wp2_with fail
            first | exact ⟨trivial, rfl, Below.refl _ _, hS⟩ | exact ⟨rfl, Below.refl _ _, hS⟩
          · have k3 : vals 3 = .bool true := hφ 3 (hd 3 (by decide))
            have k4 : vals 4 = .agg #[.bool onB, .slice aB nB cB, .int .i64 xB, .int .i64 yB] := hφ 4 (hd 4 (by decide))
            have k5 : vals 5 = .agg #[.bool onJ, .slice aJ nJ cJ, .int .i64 xJ, .int .i64 yJ] := hφ 5 (hd 5 (by decide))
            simp only [wpAt, List.getElem?_toArray, List.getElem?_cons_succ, List.getElem?_cons_zero, slotOf, frOf, Act.put]
            go_wp2_with fail
            refine (inI_is onB aB gB nB cB lB hB xB yB onJ aJ gJ nJ cJ lJ hJ xJ yJ true _ qB qJ (kB.next hS.beh) (kJ.next hS.beh) iB.out).mono ?_
            rintro e W' ⟨rfl, hb⟩
            go_wp2_with fail
            first | exact ⟨trivial, rfl, hb, HX.next hb hS⟩ | exact ⟨rfl, hb, HX.next hb hS⟩
          · have k3 : vals 3 = .bool true := hφ 3 (hd 3 (by decide))
            have k6 : vals 6 = .bool true := hφ 6 (hd 6 (by decide))
            refine wpAt_of rfl rfl ?_
            simp only [frOf, Act.put]
            go_wp2_with fail
            first | exact ⟨trivial, rfl, Below.refl _ _, hS⟩ | exact ⟨rfl, Below.refl _ _, hS⟩
          · have k7 : vals 7 = .bool true := hφ 7 (hd 7 (by decide))
            refine wpAt_of rfl rfl ?_
            simp only [frOf, Act.put]
            go_wp2_with fail
            first | exact ⟨trivial, rfl, Below.refl _ _, hS⟩ | exact ⟨rfl, Below.refl _ _, hS⟩
          · have k8 : vals 8 = .bool true := hφ 8 (hd 8 (by decide))
            have b0 := hS.cell mA (i := 0) rfl
            have b1 := hS.cell mA (i := 1) rfl
            have b2 := hS.cell mA (i := 2) rfl
            have b3 := hS.cell mA (i := 3) rfl
            dsimp only at b0 b1 b2 b3
            simp only [wpAt, List.getElem?_toArray, List.getElem?_cons_succ, List.getElem?_cons_zero, slotOf, frOf, Act.put]
            go_wp2_with fail
            first | exact ⟨trivial, rfl, Below.refl _ _, hS⟩ | exact ⟨rfl, Below.refl _ _, hS⟩
          · have k8 : vals 8 = .bool true := hφ 8 (hd 8 (by decide))
            have b0 := hS.cell mB (i := 0) rfl
            have b1 := hS.cell mB (i := 1) rfl
            have b2 := hS.cell mB (i := 2) rfl
            have b3 := hS.cell mB (i := 3) rfl
            dsimp only at b0 b1 b2 b3
            simp only [wpAt, List.getElem?_toArray, List.getElem?_cons_succ, List.getElem?_cons_zero, slotOf, frOf, Act.put]
            go_wp2_with fail
            first | exact ⟨trivial, rfl, Below.refl _ _, hS⟩ | exact ⟨rfl, Below.refl _ _, hS⟩
          · have k8 : vals 8 = .bool true := hφ 8 (hd 8 (by decide))
            have k9 : vals 9 = .agg #[.bool onA, .slice aA nA cA, .int .i64 xA, .int .i64 yA] := hφ 9 (hd 9 (by decide))
            have k10 : vals 10 = .agg #[.bool onB, .slice aB nB cB, .int .i64 xB, .int .i64 yB] := hφ 10 (hd 10 (by decide))
            simp only [wpAt, List.getElem?_toArray, List.getElem?_cons_succ, List.getElem?_cons_zero, slotOf, frOf, Act.put]
            go_wp2_with fail
            refine (joinI_is onA aA gA nA cA lA hA xA yA onB aB gB nB cB lB hB xB yB onM nM lM hM xM yM _ qA qB (kA.next hS.beh) (kB.next hS.beh) sM.out).mono ?_
            rintro e W' ⟨aq, gq, cpq, rfl, hq, hb⟩
            go_wp2_with fail
            first | exact ⟨trivial, ⟨aq, gq, cpq, rfl, hq⟩, hb, HX.next hb hS⟩ | exact ⟨⟨aq, gq, cpq, rfl, hq⟩, hb, HX.next hb hS⟩
          · have k8 : vals 8 = .bool true := hφ 8 (hd 8 (by decide))
            have b0 := hS.cell mJ (i := 0) rfl
            have b1 := hS.cell mJ (i := 1) rfl
            have b2 := hS.cell mJ (i := 2) rfl
            have b3 := hS.cell mJ (i := 3) rfl
            dsimp only at b0 b1 b2 b3
            simp only [wpAt, List.getElem?_toArray, List.getElem?_cons_succ, List.getElem?_cons_zero, slotOf, frOf, Act.put]
            go_wp2_with fail
            first | exact ⟨trivial, rfl, Below.refl _ _, hS⟩ | exact ⟨rfl, Below.refl _ _, hS⟩
          · have k8 : vals 8 = .bool true := hφ 8 (hd 8 (by decide))
            have k11 := (hq11 (hd 11 (by decide))).1
            have hq11' := (hq11 (hd 11 (by decide))).2
            have k12 : vals 12 = .agg #[.bool onJ, .slice aJ nJ cJ, .int .i64 xJ, .int .i64 yJ] := hφ 12 (hd 12 (by decide))
            simp only [wpAt, List.getElem?_toArray, List.getElem?_cons_succ, List.getElem?_cons_zero, slotOf, frOf, Act.put]
            go_wp2_with fail
            refine (inI_is onM aq11 gq11 nM cq11 lM hM xM yM onJ aJ gJ nJ cJ lJ hJ xJ yJ true _ qM qJ hq11' (kJ.next hS.beh) iM.out).mono ?_
            rintro e W' ⟨rfl, hb⟩
            go_wp2_with fail
            first | exact ⟨trivial, rfl, hb, HX.next hb hS⟩ | exact ⟨rfl, hb, HX.next hb hS⟩
          · have k8 : vals 8 = .bool true := hφ 8 (hd 8 (by decide))
            have k13 : vals 13 = .bool true := hφ 13 (hd 13 (by decide))
            refine wpAt_of rfl rfl ?_
            simp only [frOf, Act.put]
            go_wp2_with fail
            first | exact ⟨trivial, rfl, Below.refl _ _, hS⟩ | exact ⟨rfl, Below.refl _ _, hS⟩
          · have k14 : vals 14 = .bool true := hφ 14 (hd 14 (by decide))
            refine wpAt_of rfl rfl ?_
            simp only [frOf, Act.put]
            go_wp2_with fail
            first | exact ⟨trivial, rfl, Below.refl _ _, hS⟩ | exact ⟨rfl, Below.refl _ _, hS⟩
          · have k15 : vals 15 = .bool true := hφ 15 (hd 15 (by decide))
            have b0 := hS.cell mJ (i := 0) rfl
            have b1 := hS.cell mJ (i := 1) rfl
            have b2 := hS.cell mJ (i := 2) rfl
            have b3 := hS.cell mJ (i := 3) rfl
            dsimp only at b0 b1 b2 b3
            simp only [wpAt, List.getElem?_toArray, List.getElem?_cons_succ, List.getElem?_cons_zero, slotOf, frOf, Act.put]
            go_wp2_with fail
            first | exact ⟨trivial, rfl, Below.refl _ _, hS⟩ | exact ⟨rfl, Below.refl _ _, hS⟩
          · have k15 : vals 15 = .bool true := hφ 15 (hd 15 (by decide))
            have b0 := hS.cell mB (i := 0) rfl
            have b1 := hS.cell mB (i := 1) rfl
            have b2 := hS.cell mB (i := 2) rfl
            have b3 := hS.cell mB (i := 3) rfl
            dsimp only at b0 b1 b2 b3
            simp only [wpAt, List.getElem?_toArray, List.getElem?_cons_succ, List.getElem?_cons_zero, slotOf, frOf, Act.put]
            go_wp2_with fail
            first | exact ⟨trivial, rfl, Below.refl _ _, hS⟩ | exact ⟨rfl, Below.refl _ _, hS⟩
          · have k15 : vals 15 = .bool true := hφ 15 (hd 15 (by decide))
            have k16 : vals 16 = .agg #[.bool onJ, .slice aJ nJ cJ, .int .i64 xJ, .int .i64 yJ] := hφ 16 (hd 16 (by decide))
            have k17 : vals 17 = .agg #[.bool onB, .slice aB nB cB, .int .i64 xB, .int .i64 yB] := hφ 17 (hd 17 (by decide))
            simp only [wpAt, List.getElem?_toArray, List.getElem?_cons_succ, List.getElem?_cons_zero, slotOf, frOf, Act.put]
            go_wp2_with fail
            refine (mixW_I onJ aJ gJ nJ cJ lJ hJ xJ yJ onB aB gB nB cB lB hB xB yB onJ nJ lJ hJ xJ yJ _ (steps_below hst (below_tr hwz hS.beh)) qJ qB (kJ.next hS.beh) (kB.next hS.beh) sX.out).mono ?_
            rintro e W' ⟨aq, gq, cpq, rfl, hq, hb⟩
            go_wp2_with fail
            first | exact ⟨trivial, ⟨aq, gq, cpq, rfl, hq⟩, hb, HX.next hb hS⟩ | exact ⟨⟨aq, gq, cpq, rfl, hq⟩, hb, HX.next hb hS⟩
          · have k15 : vals 15 = .bool true := hφ 15 (hd 15 (by decide))
            have b0 := hS.cell mJ (i := 0) rfl
            have b1 := hS.cell mJ (i := 1) rfl
            have b2 := hS.cell mJ (i := 2) rfl
            have b3 := hS.cell mJ (i := 3) rfl
            dsimp only at b0 b1 b2 b3
            simp only [wpAt, List.getElem?_toArray, List.getElem?_cons_succ, List.getElem?_cons_zero, slotOf, frOf, Act.put]
            go_wp2_with fail
            first | exact ⟨trivial, rfl, Below.refl _ _, hS⟩ | exact ⟨rfl, Below.refl _ _, hS⟩
          · have k15 : vals 15 = .bool true := hφ 15 (hd 15 (by decide))
            have k18 := (hq18 (hd 18 (by decide))).1
            have hq18' := (hq18 (hd 18 (by decide))).2
            have k19 : vals 19 = .agg #[.bool onJ, .slice aJ nJ cJ, .int .i64 xJ, .int .i64 yJ] := hφ 19 (hd 19 (by decide))
            simp only [wpAt, List.getElem?_toArray, List.getElem?_cons_succ, List.getElem?_cons_zero, slotOf, frOf, Act.put]
            go_wp2_with fail
            refine (owStateT onJ aq18 gq18 0 nJ cq18 lJ hJ xJ yJ aJ gJ 0 cJ _ hq18' (kJ.next hS.beh) qJ).mono ?_
            rintro e W' ⟨rfl, hb⟩
            go_wp2_with fail
            first | exact ⟨trivial, rfl, hb, HX.next hb hS⟩ | exact ⟨rfl, hb, HX.next hb hS⟩
          · have k15 : vals 15 = .bool true := hφ 15 (hd 15 (by decide))
            have k20 : vals 20 = .bool true := hφ 20 (hd 20 (by decide))
            refine wpAt_of rfl rfl ?_
            simp only [frOf, Act.put]
            go_wp2_with fail
            first | exact ⟨trivial, rfl, Below.refl _ _, hS⟩ | exact ⟨rfl, Below.refl _ _, hS⟩
          · have k21 : vals 21 = .bool true := hφ 21 (hd 21 (by decide))
            refine wpAt_of rfl rfl ?_
            simp only [frOf, Act.put]
            go_wp2_with fail
            first | exact ⟨trivial, rfl, Below.refl _ _, hS⟩ | exact ⟨rfl, Below.refl _ _, hS⟩
          · have k22 : vals 22 = .bool true := hφ 22 (hd 22 (by decide))
            simp only [wpAt, List.getElem?_toArray, List.getElem?_cons_succ, List.getElem?_cons_zero, slotOf, frOf, Act.put]
            go_wp2_with fail
            first | exact ⟨trivial, rfl, Below.refl _ _, hS⟩ | exact ⟨rfl, Below.refl _ _, hS⟩
          · have k22 : vals 22 = .bool true := hφ 22 (hd 22 (by decide))
            have b0 := hS.cell mB (i := 0) rfl
            have b1 := hS.cell mB (i := 1) rfl
            have b2 := hS.cell mB (i := 2) rfl
            have b3 := hS.cell mB (i := 3) rfl
            dsimp only at b0 b1 b2 b3
            simp only [wpAt, List.getElem?_toArray, List.getElem?_cons_succ, List.getElem?_cons_zero, slotOf, frOf, Act.put]
            go_wp2_with fail
            first | exact ⟨trivial, rfl, Below.refl _ _, hS⟩ | exact ⟨rfl, Below.refl _ _, hS⟩
          · have k22 : vals 22 = .bool true := hφ 22 (hd 22 (by decide))
            have k23 : vals 23 = .agg #[.bool false, .slice none 0 0, .int .i64 0, .int .i64 0] := hφ 23 (hd 23 (by decide))
            have k24 : vals 24 = .agg #[.bool onB, .slice aB nB cB, .int .i64 xB, .int .i64 yB] := hφ 24 (hd 24 (by decide))
            simp only [wpAt, List.getElem?_toArray, List.getElem?_cons_succ, List.getElem?_cons_zero, slotOf, frOf, Act.put]
            go_wp2_with fail
            refine (mixW_I false none 0 0 0 (fun _ => 0) (fun _ => 0) 0 0 onB aB gB nB cB lB hB xB yB onB nB lB hB xB yB _ (steps_below hst (below_tr hwz hS.beh)) (by omega) qB (⟨fun h => absurd h (by omega), fun h => absurd h (by omega), fun k hk => absurd hk (by omega), fun k hk => absurd hk (by omega)⟩) (kB.next hS.beh) sB.out).mono ?_
            rintro e W' ⟨aq, gq, cpq, rfl, hq, hb⟩
            go_wp2_with fail
            first | exact ⟨trivial, ⟨aq, gq, cpq, rfl, hq⟩, hb, HX.next hb hS⟩ | exact ⟨⟨aq, gq, cpq, rfl, hq⟩, hb, HX.next hb hS⟩
          · have k22 : vals 22 = .bool true := hφ 22 (hd 22 (by decide))
            have b0 := hS.cell mB (i := 0) rfl
            have b1 := hS.cell mB (i := 1) rfl
            have b2 := hS.cell mB (i := 2) rfl
            have b3 := hS.cell mB (i := 3) rfl
            dsimp only at b0 b1 b2 b3
            simp only [wpAt, List.getElem?_toArray, List.getElem?_cons_succ, List.getElem?_cons_zero, slotOf, frOf, Act.put]
            go_wp2_with fail
            first | exact ⟨trivial, rfl, Below.refl _ _, hS⟩ | exact ⟨rfl, Below.refl _ _, hS⟩
          · have k22 : vals 22 = .bool true := hφ 22 (hd 22 (by decide))
            have k25 := (hq25 (hd 25 (by decide))).1
            have hq25' := (hq25 (hd 25 (by decide))).2
            have k26 : vals 26 = .agg #[.bool onB, .slice aB nB cB, .int .i64 xB, .int .i64 yB] := hφ 26 (hd 26 (by decide))
            simp only [wpAt, List.getElem?_toArray, List.getElem?_cons_succ, List.getElem?_cons_zero, slotOf, frOf, Act.put]
            go_wp2_with fail
            refine (owStateT onB aq25 gq25 0 nB cq25 lB hB xB yB aB gB 0 cB _ hq25' (kB.next hS.beh) qB).mono ?_
            rintro e W' ⟨rfl, hb⟩
            go_wp2_with fail
            first | exact ⟨trivial, rfl, hb, HX.next hb hS⟩ | exact ⟨rfl, hb, HX.next hb hS⟩
          · have k22 : vals 22 = .bool true := hφ 22 (hd 22 (by decide))
            have k27 : vals 27 = .bool true := hφ 27 (hd 27 (by decide))
            refine wpAt_of rfl rfl ?_
            simp only [frOf, Act.put]
            go_wp2_with fail
            first | exact ⟨trivial, rfl, Below.refl _ _, hS⟩ | exact ⟨rfl, Below.refl _ _, hS⟩
          · have k28 : vals 28 = .bool true := hφ 28 (hd 28 (by decide))
            refine wpAt_of rfl rfl ?_
            simp only [frOf, Act.put]
            go_wp2_with fail
            first | exact ⟨trivial, rfl, Below.refl _ _, hS⟩ | exact ⟨rfl, Below.refl _ _, hS⟩
        · intro L vals W hall hφ hS
          have k0 : vals 0 = .agg #[.bool onA, .slice aA nA cA, .int .i64 xA, .int .i64 yA] := hφ 0 (by decide)
          have k1 : vals 1 = .agg #[.bool onJ, .slice aJ nJ cJ, .int .i64 xJ, .int .i64 yJ] := hφ 1 (by decide)
          have k2 : vals 2 = .bool true := hφ 2 (by decide)
          have k3 : vals 3 = .bool true := hφ 3 (by decide)
          have k4 : vals 4 = .agg #[.bool onB, .slice aB nB cB, .int .i64 xB, .int .i64 yB] := hφ 4 (by decide)
          have k5 : vals 5 = .agg #[.bool onJ, .slice aJ nJ cJ, .int .i64 xJ, .int .i64 yJ] := hφ 5 (by decide)
          have k6 : vals 6 = .bool true := hφ 6 (by decide)
          have k7 : vals 7 = .bool true := hφ 7 (by decide)
          have k8 : vals 8 = .bool true := hφ 8 (by decide)
          have k9 : vals 9 = .agg #[.bool onA, .slice aA nA cA, .int .i64 xA, .int .i64 yA] := hφ 9 (by decide)
          have k10 : vals 10 = .agg #[.bool onB, .slice aB nB cB, .int .i64 xB, .int .i64 yB] := hφ 10 (by decide)
          obtain ⟨aq11, gq11, cq11, k11, _⟩ : StJ onM nM lM hM xM yM (vals 11) W := hφ 11 (by decide)
          have k12 : vals 12 = .agg #[.bool onJ, .slice aJ nJ cJ, .int .i64 xJ, .int .i64 yJ] := hφ 12 (by decide)
          have k13 : vals 13 = .bool true := hφ 13 (by decide)
          have k14 : vals 14 = .bool true := hφ 14 (by decide)
          have k15 : vals 15 = .bool true := hφ 15 (by decide)
          have k16 : vals 16 = .agg #[.bool onJ, .slice aJ nJ cJ, .int .i64 xJ, .int .i64 yJ] := hφ 16 (by decide)
          have k17 : vals 17 = .agg #[.bool onB, .slice aB nB cB, .int .i64 xB, .int .i64 yB] := hφ 17 (by decide)
          obtain ⟨aq18, gq18, cq18, k18, _⟩ : StJ onJ nJ lJ hJ xJ yJ (vals 18) W := hφ 18 (by decide)
          have k19 : vals 19 = .agg #[.bool onJ, .slice aJ nJ cJ, .int .i64 xJ, .int .i64 yJ] := hφ 19 (by decide)
          have k20 : vals 20 = .bool true := hφ 20 (by decide)
          have k21 : vals 21 = .bool true := hφ 21 (by decide)
          have k22 : vals 22 = .bool true := hφ 22 (by decide)
          have k23 : vals 23 = .agg #[.bool false, .slice none 0 0, .int .i64 0, .int .i64 0] := hφ 23 (by decide)
          have k24 : vals 24 = .agg #[.bool onB, .slice aB nB cB, .int .i64 xB, .int .i64 yB] := hφ 24 (by decide)
          obtain ⟨aq25, gq25, cq25, k25, _⟩ : StJ onB nB lB hB xB yB (vals 25) W := hφ 25 (by decide)
          have k26 : vals 26 = .agg #[.bool onB, .slice aB nB cB, .int .i64 xB, .int .i64 yB] := hφ 26 (by decide)
          have k27 : vals 27 = .bool true := hφ 27 (by decide)
          have k28 : vals 28 = .bool true := hφ 28 (by decide)
          have k29 : vals 29 = .bool true := hφ 29 (by decide)
          simp only [frOf, Act.put, List.setIfInBounds_toArray, List.set_cons_succ, List.set_cons_zero, k0, k1, k2, k3, k4, k5, k6, k7, k8, k9, k10, k11, k12, k13, k14, k15, k16, k17, k18, k19, k20, k21, k22, k23, k24, k25, k26, k27, k28, k29]
          clear k0 k1 k2 k3 k4 k5 k6 k7 k8 k9 k10 k11 k12 k13 k14 k15 k16 k17 k18 k19 k20 k21 k22 k23 k24 k25 k26 k27 k28 k29 hall hφ hS0
          go_wp2_with fail
          go_ret
          exact ⟨rfl, hS.below⟩

set_option maxRecDepth 100000 in
theorem contract (H : Type) (enc : TypeId × Value → H) (W : World) (base : Nat) (args : Array Value) (ds gs : List (DataW H)) (before : List MemPlace)
    (hval : ∀ (j : Nat) t v, Tryd.f3.params[j]? = some t → args[j]? = some v → Value.okWide Tryd.prog W .any base t v)
    (hW : DataW.Whole enc Tryd.prog Tryd.f3.params.toList Rows.fnAbsWideSpec.vars false W args.toList ds gs before) (hL : laidMetH Tryd.prog Rows.fnAbsWideRow.laid W) :
    Calls Tryd.prog 3 args W fun e W' => ∃ v, e = .returned v ∧ Rows.fnAbsWideSpec.post enc Tryd.prog Tryd.f3 false true false false W args v W' := by
  have hW' := hW
  obtain ⟨p, q, hA0, hV, rfl, hfz, hnd⟩ := hW
  have hA : DataW.TrodAll enc Tryd.prog W 0 (fun _ => true) true Tryd.f3.params.toList args.toList ds p := hA0
  rw [Tryd.params3] at hA hval
  obtain ⟨v0, vs0, d0, ds0, p0, q0, hargs, rfl, rfl, h0, r0'⟩ := trodAll_cons hA
  obtain ⟨rfl, rfl, rfl⟩ := trodAll_nil r0'
  obtain rfl : args = #[v0] := by cases args; simp_all
  obtain ⟨gv, tv, csv, fuelv, dv, pv, rfl, hgv, htv, hvarv, hdv, rfl⟩ := trodVars_one hV
  obtain rfl := Option.some.inj (gVar.symm.trans hgv)
  obtain rfl := Option.some.inj (gVarType.symm.trans htv)
  have ltv : ∀ x ∈ pv, x.block < W.heap.size := DataW.trod_lt fuelv _ _ _ hdv
  obtain ⟨a0, len0, cap0, rfl⟩ := okWide_slice Tryd.underlying22 (hval 0 22 v0 rfl rfl)
  have k0 := h0
  have lt0 : ∀ x ∈ p0, x.block < W.heap.size := by obtain ⟨m, hm⟩ := k0; exact DataW.trod_lt m _ _ _ hm
  obtain ⟨z0, hz0, r0⟩ : ∃ z : Nat → Int, (∀ i, 0 ≤ z i ∧ z i ≤ 255) ∧ Bytes W a0 len0 cap0 z := by
    obtain ⟨fuel, hf⟩ := h0
    rcases open_ints Tryd.underlying22 Tryd.underlying5 (by kernel_rfl) hf with ⟨hcs, _⟩ | ⟨x, l, c, zs, hcs, _, hl, hm, hz, _, hcell, hwz⟩
    · simp [Value.cells] at hcs
      obtain ⟨rfl, rfl, rfl⟩ := hcs
      exact ⟨fun _ => 0, fun _ => by simp, .inl rfl⟩
    · simp [Value.cells] at hcs
      obtain ⟨rfl, rfl, rfl⟩ := hcs
      exact bytes_of hl (by simpa using hz) hcell hwz
  clear hA0
  refine (walk a0 len0 cap0 z0 W hz0 r0 (varTable hL)).mono fun e W' ⟨he, bel⟩ => ?_
  subst he
  obtain ⟨fq, hq⟩ := Below.trod (v := .agg csv) laidOut (by kernel_rfl) (of_decide_eq_true (by kernel_rfl)) ⟨fuelv, hdv⟩ bel ltv
  exact ⟨_, rfl, _, _, _, [], _, _, hW', trodAll_mk1 (shut_bool Tryd.underlying4 _), (trodAll_cons_mk (Below.trod laidOut (by kernel_rfl) (of_decide_eq_true (by kernel_rfl)) k0 bel lt0) trodAll_mk0), trodVars_mk1 gVar gVarType (varStays hvarv bel) hq, bel.frame _, fun h => by cases h⟩

def extra : Array Obj := #[]
def setRow (cs : Array Value) : Obj → Obj
  | .cells _ t frozen => .cells cs t frozen
  | o => o
def tabs (low : Nat) (h : Array Obj) : Array Obj :=
  (h.modify 0 (setRow #[.int .i64 (-32768), .int .i64 (-1000), .int .i64 (-100), .int .i64 (-10), .int .i64 (-1), .int .i64 0, .int .i64 1, .int .i64 10, .int .i64 100, .int .i64 1000, .int .i64 32767]))
theorem laid_met (os : Os) : laidMet Tryd.prog Rows.fnAbsWideRow.laid (({ World.holding Tryd.prog os ⟨extra, #[], []⟩ with heap := tabs (World.holding Tryd.prog default ⟨#[], #[], []⟩).heap.size (World.holding Tryd.prog os ⟨extra, #[], []⟩).heap }).forCall (fun _ _ => 0) ⟨#[], #[.slice none 0 0], []⟩).memory :=
  laidMet_of_run' 8 (by kernel_rfl) (by kernel_rfl)
theorem reads (os : Os) {H : Type} (enc : TypeId × Value → H) : ∃ places, DataW.whole enc Tryd.prog (({ World.holding Tryd.prog os ⟨extra, #[], []⟩ with heap := tabs (World.holding Tryd.prog default ⟨#[], #[], []⟩).heap.size (World.holding Tryd.prog os ⟨extra, #[], []⟩).heap }).forCall (fun _ _ => 0) ⟨#[], #[.slice none 0 0], []⟩).memory Tryd.f3.params.toList Rows.fnAbsWideSpec.vars false (#[.slice none 0 0] : Array Value).toList 8 = some ([.nil], [Rows.laid_loop_example_outwork_impl_wideSteps], places) :=
  ⟨MemPlace.row ⟨0, 0, none⟩ 11, by kernel_rfl⟩

set_option maxRecDepth 100000 in
theorem lifted (os : Os) (started : os.Started) (H : Type) (enc : TypeId × Value → H) (F : Stop.Interp) :
    ReturnsInHanded {} Tryd.checked os 3 .any ((OpenSpec.ofChange Rows.fnAbsWideSpec).preRow enc Tryd.prog Tryd.f3 Rows.fnAbsWideRow.domain false Rows.fnAbsWideRow.laid) (((OpenSpec.ofChange Rows.fnAbsWideSpec).at F).post enc Tryd.prog Tryd.f3 false true false false) := by
  obtain ⟨places, hx⟩ := reads os enc
  refine returnsInHanded_of_row (C := Tryd.checked) (s := OpenSpec.ofChange Rows.fnAbsWideSpec) own started (by kernel_rfl) Tryd.func3
    (witness_row_at (enc := enc) (C := Tryd.checked) false ({ World.holding Tryd.prog os ⟨extra, #[], []⟩ with heap := tabs (World.holding Tryd.prog default ⟨#[], #[], []⟩).heap.size (World.holding Tryd.prog os ⟨extra, #[], []⟩).heap }) #[.slice none 0 0] rfl (by kernel_rfl) (by kernel_rfl) (by kernel_rfl)
      (OpenSpec.preRow_of_cond 8 hx (by kernel_rfl) (fun k hk => by cases hk) (by kernel_rfl) (laid_met os))) ?_
  intro W base args ds gs before hval hW _ _ _ hL _ _
  exact contract H enc W base args ds gs before hval hW hL

theorem said : Rows.FnAbsWideSaid :=
  OpenClaim.holds_of_cond 3 Tryd.f3 rfl rfl rfl rfl rfl rfl rfl ⟨rfl, rfl, rfl, rfl, rfl⟩ rfl rfl rfl rfl rfl (by kernel_rfl) Tryd.func3 (by kernel_rfl)
    (of_decide_eq_true (by kernel_rfl)) (by unfold Func.isWrapper; first | (rw [if_pos (by decide +kernel)]; kernel_rfl) | (rw [if_neg (by decide +kernel)]; exact ⟨rfl, rfl⟩))
    (fun os started H enc _ F => by rw [OpenClaim.pre_eq_preRow]; exact lifted os started H enc F)

theorem plain (f : FuncId) (fn : Func) (hf : Tryd.pinned.checked.prog.funcNamed "loop.example/outwork/laws.FnAbsWide" = some f) (hfn : Tryd.pinned.checked.prog.funcs[f]? = some fn) :
    false = Tryd.pinned.checked.prog.looks [] ∧ ∀ (j : Nat) t, fn.params[j]? = some t → Tryd.pinned.checked.prog.wantsStandIn t = false := by
  obtain rfl : f = 3 := Option.some.inj ((show Tryd.prog.funcNamed "loop.example/outwork/laws.FnAbsWide" = some 3 by kernel_rfl).symm.trans hf) |>.symm
  obtain rfl : fn = Tryd.f3 := (Option.some.inj (Tryd.func3.symm.trans hfn)).symm
  refine ⟨by kernel_rfl, fun j t ht => ?_⟩
  rw [Tryd.params3] at ht
  obtain rfl : t = 22 := by simpa using Array.mem_of_getElem? ht
  · exact (show Tryd.prog.wantsStandIn 22 = false by kernel_rfl)

theorem proved : Rows.FnAbsWideCardSaid :=
  Claim7.holds_tied_plain_at .later [] _ _ _ _ said (fun _ h => by cases h) (by kernel_rfl) (fun _ h => by cases h) fnAbsWide_row_tie rfl ⟨rfl, rfl⟩ (by kernel_rfl) rfl plain (by kernel_rfl)
#print axioms proved
end Go.Proofs.YtiehokibfdaleaaDoor.fnAbsWide
