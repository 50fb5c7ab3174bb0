/- Whatever bytes are handed in, the law FnAbsEntry returns true. Of more than 1048576 bytes the law itself answers true. No condition. -/
import Derived.Test.YtiehokibfdaleaaDrawAbsEntry
import Derived.Test.YtiehokibfdaleaaDrawList
import Derived.Test.YtiehokibfdaleaaAbsEntry
import Derived.Test.YtiehokibfdaleaaOwState
import Derived.Test.YtiehokibfdaleaaAbsHas
import Derived.Test.YtiehokibfdaleaaAbsLaw
import Derived.Test.YtiehokibfdaleaaExLaw
import Derived.Test.YtiehokibfdaleaaHeld
import Derived.Test.YtiehokibfdaleaaHeld8
import Derived.Deep.RegionHeld3
import Derived.Deep.DeepCutAuto
import Derived.WalkKit
import Derived.ProofKit
import Derived.OpenShut
import Derived.ShutString
import Derived.ChangeOld
import Derived.Below
namespace Go.Proofs.Ytiehokibfdaleaa.fnAbsEntry
open Go.ChangeShapes Go.WideShapes Go.ChangeAt Go.RowKit
open Go.ChangeMaps (open_string shut_string)
set_option linter.unusedVariables false

theorem own : ownKnob Try.prog.godebug = none := by kernel_rfl
theorem laidOut : laidOutB Try.prog = true := by kernel_rfl

theorem owOkA (w : World) : Calls Try.prog 11 #[] w fun e w' => e = .returned (.bool true) ∧ w' = w := by
  go_enter Try.func11, Try.ntmps11
  go_wp2_with (go_at_call 29; refine (okI _ _).mono ?_; rintro e w' ⟨rfl, rfl⟩)
  go_ret
  exact ⟨rfl, rfl⟩
/-- A state that was answered. -/
def StJ (on : Bool) (n : Nat) (lo hi : Nat → Int) (c d : Int) (v : Value) (W : World) : Prop := ∃ (a : Option Addr) (g cap : Nat), v = .agg #[.bool on, .slice a n cap, .int .i64 c, .int .i64 d] ∧ BndsAt a g 0 n lo hi W
theorem StJ.next {on : Bool} {n i : Nat} {lo hi : Nat → Int} {c d : Int} {v : Value} {W W' : World} (h : StJ on n lo hi c d v W) (hb : TX i W W') : StJ on n lo hi c d v W' := by
  obtain ⟨a, g, cap, e, h1⟩ := h
  exact ⟨a, g, cap, e, h1.next hb⟩
/-- Four numbers, all but the first 0. -/
def SlN (x : Int) (v : Value) (W : World) : Prop := ∃ g : Nat, v = .slice (some ⟨g, 0, none⟩) 4 4 ∧ IntsAt (some ⟨g, 0, none⟩) g 0 4 (fun k => if k = 0 then x else 0) W
theorem SlN.next {x : Int} {i : Nat} {v : Value} {W W' : World} (h : SlN x v W) (hb : TX i W W') : SlN x v W' := by
  obtain ⟨g, e, h1⟩ := h
  exact ⟨g, e, h1.next hb⟩
theorem slN_new (x : Int) {W : World} {t : TypeId} : SlN x (.slice (some ⟨W.heap.size, 0, none⟩) 4 4) (W.alloc (.cells #[.int .i64 x, .int .i64 0, .int .i64 0, .int .i64 0] t)) := by
  refine ⟨_, rfl, fun _ => rfl, fun _ => by simp, fun k hk => ?_⟩
  rcases (show k = 0 ∨ k = 1 ∨ k = 2 ∨ k = 3 by omega) with rfl | rfl | rfl | rfl <;> simp [go_sem]
theorem ints_new (x : Int) {W : World} {t : TypeId} : IntsAt (some ⟨W.heap.size, 0, none⟩) W.heap.size 0 4 (fun k => if k = 0 then x else 0) (W.alloc (.cells #[.int .i64 x, .int .i64 0, .int .i64 0, .int .i64 0] t)) := by
  refine ⟨fun _ => rfl, fun _ => by simp, fun k hk => ?_⟩
  rcases (show k = 0 ∨ k = 1 ∨ k = 2 ∨ k = 3 by omega) with rfl | rfl | rfl | rfl <;> simp [go_sem]
theorem entryI_is (lo hi : Int) (onJ : Bool) (nJ : Nat) (lJ hJ : Nat → Int) (a : Option Addr) (n cap : Nat) (w : World) (e1 : itvOk lo hi = onJ) (e2 : entN lo hi = nJ) (e3 : entF lo = lJ) (e4 : entF hi = hJ) :
    Calls Try.prog 20 #[.agg #[.int .i64 lo, .int .i64 hi, .slice a n cap]] w fun e w' => ∃ (aJ : Option Addr) (gJ cJ : Nat), e = .returned (.agg #[.bool onJ, .slice aJ nJ cJ, .int .i64 0, .int .i64 0]) ∧ BndsAt aJ gJ 0 nJ lJ hJ w' ∧ Below w.heap.size w w' := by
  subst e1 e2 e3 e4
  refine (absEntryI lo hi a n cap w).mono ?_
  rintro e w' ⟨v, rfl, ⟨aj, gj, cj, rfl, hI⟩, hb⟩
  exact ⟨aj, gj, cj, rfl, hI.at_, hb⟩
theorem entryS_is (lo hi : Int) (onJ : Bool) (nJ : Nat) (lJ hJ : Nat → Int) (a : Option Addr) (n cap : Nat) (w : World) (e1 : itvOk lo hi = onJ) (e2 : entN lo hi = nJ) (e3 : entF lo = lJ) (e4 : entF hi = hJ) :
    Calls Try.prog 21 #[.agg #[.int .i64 lo, .int .i64 hi, .slice a n cap]] w fun e w' => ∃ (aJ : Option Addr) (gJ cJ : Nat), e = .returned (.agg #[.bool onJ, .slice aJ nJ cJ, .int .i64 0, .int .i64 0]) ∧ BndsAt aJ gJ 0 nJ lJ hJ w' ∧ Below w.heap.size w w' := by
  subst e1 e2 e3 e4
  refine (absEntryS lo hi a n cap w).mono ?_
  rintro e w' ⟨v, rfl, ⟨aj, gj, cj, rfl, hI⟩, hb⟩
  exact ⟨aj, gj, cj, rfl, hI.at_, hb⟩
theorem has_is (on : Bool) (a : Option Addr) (b n cap : Nat) (lo hi : Nat → Int) (c d : Int) (g : Nat) (x : Int) (Z : Nat) (w : World) (q : Bool) (hC : BndsAt a b 0 n lo hi w) (h1 : IntsAt (some ⟨g, 0, none⟩) g 0 4 (fun k => if k = 0 then x else 0) w) (h2 : IntsAt (some ⟨Z, 0, none⟩) Z 0 4 (fun k => if k = 0 then 0 else 0) w) (hn : n ≤ 1048576) (hq : absHas on n lo hi c d 4 (fun k => if k = 0 then x else 0) 4 (fun k => if k = 0 then 0 else 0) = q) :
    Calls Try.prog 15 #[.agg #[.bool on, .slice a n cap, .int .i64 c, .int .i64 d], .slice (some ⟨g, 0, none⟩) 4 4, .slice (some ⟨Z, 0, none⟩) 4 4] w fun e w' => e = .returned (.bool q) ∧ Below w.heap.size w w' := by
  subst hq
  exact absHasI _ _ _ _ _ _ _ _ _ _ _ _ _ _ _ _ _ _ _ _ _ _ w hn (by omega) (by omega) hC h1 h2
theorem has_eq {lo hi x : Int} (h : itvOk lo hi = true) : absHas true (entN lo hi) (entF lo) (entF hi) 0 0 4 (fun k => if k = 0 then x else 0) 4 (fun k => if k = 0 then 0 else 0) = (decide (lo ≤ x) && decide (x ≤ hi)) := by
  have h4 : entN lo hi = 4 := by simp [entN, h]
  have h0 : itvOk 0 0 = true := by decide
  rw [h4]
  simp [absHas, absOk, allOk, hasTo, itvHas, entF, setF, h, h0]

set_option maxRecDepth 10000 in
set_option maxHeartbeats 40000000 in
theorem walk (a0 : Option Addr) (len0 cap0 : Nat) (z0 : Nat → Int) (a1 : Option Addr) (len1 cap1 : Nat) (z1 : Nat → Int) (w : World) (hz0 : ∀ i, 0 ≤ z0 i ∧ z0 i ≤ 255) (r0 : Bytes w a0 len0 cap0 z0) (hz1 : ∀ i, 0 ≤ z1 i ∧ z1 i ≤ 255) (r1 : Bytes w a1 len1 cap1 z1) :
    Calls Try.prog 5 #[.slice a0 len0 cap0, .slice a1 len1 cap1] w fun e w' => e = .returned (.bool true) ∧ Below w.heap.size w w' := by
  by_cases hl0 : len0 ≤ 1048576
  case neg =>
    have hi : (1048576 : Int) < (len0 : Int) := by omega
    go_enter Try.func5, Try.ntmps5
    go_wp2_with fail
    go_ret
    exact ⟨rfl, Below.refl _ _⟩
  have hi0 : ¬ (1048576 : Int) < (len0 : Int) := by omega
  by_cases hl1 : len1 ≤ 1048576
  case neg =>
    have hi : (1048576 : Int) < (len1 : Int) := by omega
    go_enter Try.func5, Try.ntmps5
    go_wp2_with fail
    go_ret
    exact ⟨rfl, Below.refl _ _⟩
  have hi1 : ¬ (1048576 : Int) < (len1 : Int) := by omega
  go_enter Try.func5, Try.ntmps5
  go_wp2_with fail
  refine (drawAbsEntry a0 len0 cap0 z0 _ hz0 hl0 r0).mono ?_
  rintro e w1 ⟨lo, hi, ac, nc, cc, i0, i1, rfl, b1⟩
  have H1 : HeldL w [(w1.heap.size, [Value.int .i64 lo, .int .i64 hi, .slice ac nc cc])] (w1.alloc (.cells #[.int .i64 lo, .int .i64 hi, .slice ac nc cc] 41)) := HeldL.newL (vs := [Value.int .i64 lo, .int .i64 hi, .slice ac nc cc]) ((HeldL.nil w).next b1)
  have r1' := r1.kept H1.below
  clear b1 r0 r1
  go_wp2_with fail
  refine (drawInputs a1 len1 cap1 z1 _ hz1 hl1 r1').mono ?_
  rintro e w2 ⟨n, v, hn1, hn2, rfl, ⟨gv, cv, zs, rfl, _, _, _, _, _, _⟩, b2⟩
  have H2 := H1.next b2
  clear H1 b2 r1'
  obtain ⟨XC, hXC⟩ : ∃ X, X = w1.heap.size := ⟨_, rfl⟩
  rw [← hXC] at H2
  have hXCh : Hid (XC = w1.heap.size) := hXC
  clear hXC
  have p0 := H2.cell (e := (XC, [Value.int .i64 lo, .int .i64 hi, .slice ac nc cc])) (by simp) (i := 0) rfl
  have p1 := H2.cell (e := (XC, [Value.int .i64 lo, .int .i64 hi, .slice ac nc cc])) (by simp) (i := 1) rfl
  have p2 := H2.cell (e := (XC, [Value.int .i64 lo, .int .i64 hi, .slice ac nc cc])) (by simp) (i := 2) rfl
  dsimp only at p0 p1 p2
  obtain ⟨onJ, eon'⟩ : ∃ q, itvOk lo hi = q := ⟨_, rfl⟩
  obtain ⟨nJ, en'⟩ : ∃ q, entN lo hi = q := ⟨_, rfl⟩
  obtain ⟨lJ, el'⟩ : ∃ q, entF lo = q := ⟨_, rfl⟩
  obtain ⟨hJ, eh'⟩ : ∃ q, entF hi = q := ⟨_, rfl⟩
  have qJ : nJ ≤ 1048576 := by rw [← en']; unfold entN; split <;> omega
  have eon : Hid (itvOk lo hi = onJ) := eon'
  have en : Hid (entN lo hi = nJ) := en'
  have el : Hid (entF lo = lJ) := el'
  have eh : Hid (entF hi = hJ) := eh'
  clear eon' en' el' eh'
  rw [← hXCh.out]
  clear hXCh
  go_wp2_with fail
  refine (entryI_is lo hi onJ nJ lJ hJ ac nc cc _ eon.out en.out el.out eh.out).mono ?_
  rintro e w3 ⟨aJ, gJ, cJ, rfl, kJ, b3⟩
  have bb3 : Below w3.heap.size w3 (w3.alloc (.cells #[.bool onJ, .slice aJ nJ cJ, .int .i64 0, .int .i64 0] 27)) := (Below.refl _ _).alloc (Nat.le_refl _) _
  replace kJ := kJ.next bb3
  have H3 := HeldL.newL (vs := [Value.bool onJ, .slice aJ nJ cJ, .int .i64 0, .int .i64 0]) (t := 27) (HeldL.next b3 H2)
  clear H2 b3 bb3 p0 p1 p2
  obtain ⟨XJ, hXJ⟩ : ∃ X, X = w3.heap.size := ⟨_, rfl⟩
  obtain ⟨wz, hwz⟩ : ∃ W, W = w3.alloc (.cells #[.bool onJ, .slice aJ nJ cJ, .int .i64 0, .int .i64 0] 27) := ⟨_, rfl⟩
  rw [← hwz] at H3 kJ
  rw [← hXJ] at H3
  obtain ⟨Lb, hLb⟩ : ∃ L, L = [(XJ, [Value.bool onJ, .slice aJ nJ cJ, .int .i64 0, .int .i64 0]), (XC, [Value.int .i64 lo, .int .i64 hi, .slice ac nc cc])] := ⟨_, rfl⟩
  rw [← hLb] at H3
  have mC : (XC, [Value.int .i64 lo, .int .i64 hi, .slice ac nc cc]) ∈ Lb := by rw [hLb]; simp
  have mJ : (XJ, [Value.bool onJ, .slice aJ nJ cJ, .int .i64 0, .int .i64 0]) ∈ Lb := by rw [hLb]; simp
  have hXJh : Hid (XJ = w3.heap.size) := hXJ
  have hwh : Hid (wz = w3.alloc (.cells #[.bool onJ, .slice aJ nJ cJ, .int .i64 0, .int .i64 0] 27)) := hwz
  clear hXJ hwz hLb
  have hS0 : HX w wz Lb wz.drew := ⟨HeldL.drew H3, (Below.refl _ wz).drew⟩
  clear H3
  go_wp2_with fail
  rw [← hwh.out, ← hXJh.out]
  clear hXJh hwh
  refine region_inv3 [(0, 27), (1, 28), (2, 29), (3, 30), (4, 31)]
    (fun j v W => match j with
      | 0 => Is (.agg #[.bool onJ, .slice aJ nJ cJ, .int .i64 0, .int .i64 0]) v
      | 1 => Is (.agg #[.int .i64 lo, .int .i64 hi, .slice ac nc cc]) v
      | 2 => StJ onJ nJ lJ hJ 0 0 v W
      | 3 => Is (.bool true) v
      | 4 => Is (.bool false) v
      | _ => True)
    (fun _ W => HX w wz Lb W) TX
    (by kernel_rfl) (by kernel_rfl) (by kernel_rfl) (by kernel_rfl) (by kernel_rfl) rfl hS0 ?_ ?_ ?_
  · intro i j v W W' hji hφ hT
    match j, hφ with
    | 0, hφ => exact hφ
    | 1, hφ => exact hφ
    | 2, hφ => exact hφ.next hT
    | 3, hφ => exact hφ
    | 4, hφ => exact hφ
    | _ + 5, _ => trivial
  · intro i L vals W hi' hφ hS hL hd
    have hi2 : i < 5 := hi'
    clear hi'
    obtain ⟨aq, gq, cpq, hq2⟩ : ∃ (aq : Option Addr) (gq cpq : Nat), L 2 = true → vals 2 = .agg #[.bool onJ, .slice aq nJ cpq, .int .i64 0, .int .i64 0] ∧ BndsAt aq gq 0 nJ lJ hJ W := by
      by_cases h : L 2 = true
      · obtain ⟨aq, gq, cpq, h1, h2⟩ : StJ onJ nJ lJ hJ 0 0 (vals 2) W := hφ 2 h
        exact ⟨aq, gq, cpq, fun _ => ⟨h1, h2⟩⟩
      · exact ⟨none, 0, 0, fun h' => absurd h' h⟩
    rcases (show i = 0 ∨ i = 1 ∨ i = 2 ∨ i = 3 ∨ i = 4 by omega) with rfl | rfl | rfl | rfl | rfl
    · have b0 := hS.cell mJ (i := 0) rfl
      have b1 := hS.cell mJ (i := 1) rfl
      have b2 := hS.cell mJ (i := 2) rfl
      have b3 := hS.cell mJ (i := 3) rfl
      dsimp only at b0 b1 b2 b3
      refine wpAt_of rfl rfl ?_
      simp only [frOf, Act.put]
      go_wp2_with fail
      first | exact ⟨trivial, rfl, Below.refl _ _, hS⟩ | exact ⟨rfl, Below.refl _ _, hS⟩
    · have b0 := hS.cell mC (i := 0) rfl
      have b1 := hS.cell mC (i := 1) rfl
      have b2 := hS.cell mC (i := 2) rfl
      dsimp only at b0 b1 b2
      refine wpAt_of rfl rfl ?_
      simp only [frOf, Act.put]
      go_wp2_with fail
      first | exact ⟨trivial, rfl, Below.refl _ _, hS⟩ | exact ⟨rfl, Below.refl _ _, hS⟩
    · have k1 : vals 1 = .agg #[.int .i64 lo, .int .i64 hi, .slice ac nc cc] := hφ 1 (hd 1 (by decide))
      refine wpAt_of rfl rfl ?_
      simp only [frOf, Act.put]
      go_wp2_with fail
      refine (entryS_is lo hi onJ nJ lJ hJ ac nc cc _ eon.out en.out el.out eh.out).mono ?_
      rintro e W' ⟨aq, gq, cpq, rfl, hq, hb⟩
      go_wp2_with fail
      first | exact ⟨trivial, ⟨aq, gq, cpq, rfl, hq⟩, hb, HX.next hb hS⟩ | exact ⟨⟨aq, gq, cpq, rfl, hq⟩, hb, HX.next hb hS⟩
    · have k0 : vals 0 = .agg #[.bool onJ, .slice aJ nJ cJ, .int .i64 0, .int .i64 0] := hφ 0 (hd 0 (by decide))
      have k2 := (hq2 (hd 2 (by decide))).1
      have hq2' := (hq2 (hd 2 (by decide))).2
      refine wpAt_of rfl rfl ?_
      simp only [frOf, Act.put]
      go_wp2_with fail
      refine (owStateT onJ aJ gJ 0 nJ cJ lJ hJ 0 0 aq gq 0 cpq _ (kJ.next hS.beh) hq2' qJ).mono ?_
      rintro e W' ⟨rfl, hb⟩
      go_wp2_with fail
      first | exact ⟨trivial, rfl, hb, HX.next hb hS⟩ | exact ⟨rfl, hb, HX.next hb hS⟩
    · have k3 : vals 3 = .bool true := hφ 3 (hd 3 (by decide))
      refine wpAt_of rfl rfl ?_
      simp only [frOf, Act.put]
      go_wp2_with fail
      first | exact ⟨trivial, rfl, Below.refl _ _, hS⟩ | exact ⟨rfl, Below.refl _ _, hS⟩
  · intro L vals W hall hφ hS
    have k0 : vals 0 = .agg #[.bool onJ, .slice aJ nJ cJ, .int .i64 0, .int .i64 0] := hφ 0 (by decide)
    have k1 : vals 1 = .agg #[.int .i64 lo, .int .i64 hi, .slice ac nc cc] := hφ 1 (by decide)
    obtain ⟨aq, gq, cpq, k2, _⟩ : StJ onJ nJ lJ hJ 0 0 (vals 2) W := hφ 2 (by decide)
    have k3 : vals 3 = .bool true := hφ 3 (by decide)
    have k4 : vals 4 = .bool false := hφ 4 (by decide)
    simp only [frOf, Act.put, List.setIfInBounds_toArray, List.set_cons_succ, List.set_cons_zero, k0, k1, k2, k3, k4]
    clear k0 k1 k2 k3 k4 hall hφ hS0
    have hY := HX.alloc (.cells #[.int .i64 0, .int .i64 0, .int .i64 0, .int .i64 0] 3) hS
    have kZ := ints_new 0 (W := W) (t := 3)
    replace kJ := kJ.next hY.beh
    obtain ⟨wy, hwy⟩ : ∃ V, V = W.alloc (.cells #[.int .i64 0, .int .i64 0, .int .i64 0, .int .i64 0] 3) := ⟨_, rfl⟩
    obtain ⟨Zb, hZb⟩ : ∃ b, b = W.heap.size := ⟨_, rfl⟩
    rw [← hwy] at hY kZ kJ
    rw [← hZb] at kZ
    have hS' : HX w wy Lb wy := ⟨hY.1, Below.refl _ _⟩
    have hwyh : Hid (wy = W.alloc (.cells #[.int .i64 0, .int .i64 0, .int .i64 0, .int .i64 0] 3)) := hwy
    have hZbh : Hid (Zb = W.heap.size) := hZb
    clear hY hwy hZb
    have b0 := hS'.cell mC (i := 0) rfl
    have b1 := hS'.cell mC (i := 1) rfl
    have b2 := hS'.cell mC (i := 2) rfl
    dsimp only at b0 b1 b2
    go_upto_region 9 with fail
    rw [← hwyh.out, ← hZbh.out]
    clear hwyh hZbh hS
    go_wp2_with fail
    refine (itvOkS lo hi _).mono ?_
    rintro e w5 ⟨rfl, hb⟩
    rw [eon.out]
    replace hS' := HX.next hb hS'
    clear hb b0 b1 b2
    cases onJ with
    | false =>
      have b0 := hS'.cell mJ (i := 0) rfl
      have b1 := hS'.cell mJ (i := 1) rfl
      have b2 := hS'.cell mJ (i := 2) rfl
      have b3 := hS'.cell mJ (i := 3) rfl
      dsimp only at b0 b1 b2 b3
      clear eon en el eh
      go_wp2_with (first | (go_at_call 11; refine (owOkA _).mono ?_; rintro e w' ⟨rfl, rfl⟩))
      go_ret
      exact ⟨rfl, hS'.below⟩
    | true =>
      have hlh : lo ≤ hi := (itvOk_of eon.out).2.2
      have h2 : Hid (absHas true nJ lJ hJ 0 0 4 (fun k => if k = 0 then hi else 0) 4 (fun k => if k = 0 then 0 else 0) = true) := (show _ = _ by rw [← en.out, ← el.out, ← eh.out, has_eq eon.out]; simp [hlh])
      have hS0 := hS'.drew
      clear hS'
      by_cases ge : lo ≤ n
      case neg =>
        have h1 : Hid (absHas true nJ lJ hJ 0 0 4 (fun k => if k = 0 then n else 0) 4 (fun k => if k = 0 then 0 else 0) = false) := (show _ = _ by rw [← en.out, ← el.out, ← eh.out, has_eq eon.out]; simp [ge])
        clear eon en el eh hlh
        go_wp2_with fail
        refine region_inv3 [(0, 46), (1, 47), (2, 48), (3, 49), (4, 50), (5, 51), (6, 52), (7, 53), (8, 54), (9, 55), (10, 56), (11, 57), (12, 58), (13, 59), (14, 60), (15, 61), (16, 62), (17, 63), (18, 64), (19, 65), (20, 66), (21, 67), (22, 68), (23, 69), (24, 4)]
          (fun j v W => match j with
            | 0 => Is (.agg #[.bool true, .slice aJ nJ cJ, .int .i64 0, .int .i64 0]) v
            | 1 => Is (.int .i64 n) v
            | 2 => SlN n v W
            | 3 => Is (.slice (some ⟨Zb, 0, none⟩) 4 4) v
            | 4 => Is (.bool false) v
            | 5 => Is (.int .i64 n) v
            | 6 => Is (.pointer (some ⟨XC, 0, none⟩)) v
            | 7 => Is (.int .i64 lo) v
            | 8 => Is (.bool false) v
            | 9 => Is (.bool false) v
            | 10 => Is (undef) v
            | 11 => Is (undef) v
            | 12 => Is (undef) v
            | 13 => Is (undef) v
            | 14 => Is (.bool false) v
            | 15 => Is (.bool true) v
            | 16 => Is (.bool true) v
            | 17 => Is (.agg #[.bool true, .slice aJ nJ cJ, .int .i64 0, .int .i64 0]) v
            | 18 => Is (.pointer (some ⟨XC, 1, none⟩)) v
            | 19 => Is (.int .i64 hi) v
            | 20 => SlN hi v W
            | 21 => Is (.slice (some ⟨Zb, 0, none⟩) 4 4) v
            | 22 => Is (.bool true) v
            | 23 => Is (.bool true) v
            | 24 => Is (.bool true) v
            | _ => True)
          (fun _ W => HX w wy Lb W) TX
          (by kernel_rfl) (by kernel_rfl) (by kernel_rfl) (by kernel_rfl) (by kernel_rfl) rfl hS0 ?_ ?_ ?_
        · intro i j v W W' hji hφ hT
          match j, hφ with
          | 0, hφ => exact hφ
          | 1, hφ => exact hφ
          | 2, hφ => exact hφ.next hT
          | 3, hφ => exact hφ
          | 4, hφ => exact hφ
          | 5, hφ => exact hφ
          | 6, hφ => exact hφ
          | 7, hφ => exact hφ
          | 8, hφ => exact hφ
          | 9, hφ => exact hφ
          | 10, hφ => exact hφ
          | 11, hφ => exact hφ
          | 12, hφ => exact hφ
          | 13, hφ => exact hφ
          | 14, hφ => exact hφ
          | 15, hφ => exact hφ
          | 16, hφ => exact hφ
          | 17, hφ => exact hφ
          | 18, hφ => exact hφ
          | 19, hφ => exact hφ
          | 20, hφ => exact hφ.next hT
          | 21, hφ => exact hφ
          | 22, hφ => exact hφ
          | 23, hφ => exact hφ
          | 24, hφ => exact hφ
          | _ + 25, _ => trivial
        · intro i L vals W hi' hφ hS hL hd
          have hi2 : i < 25 := hi'
          clear hi'
          obtain ⟨g2, hq2⟩ : ∃ (g2 : Nat), L 2 = true → vals 2 = .slice (some ⟨g2, 0, none⟩) 4 4 ∧ IntsAt (some ⟨g2, 0, none⟩) g2 0 4 (fun k => if k = 0 then n else 0) W := by
            by_cases h : L 2 = true
            · obtain ⟨g2, h1, h2⟩ : SlN n (vals 2) W := hφ 2 h
              exact ⟨g2, fun _ => ⟨h1, h2⟩⟩
            · exact ⟨0, fun h' => absurd h' h⟩
          obtain ⟨g20, hq20⟩ : ∃ (g20 : Nat), L 20 = true → vals 20 = .slice (some ⟨g20, 0, none⟩) 4 4 ∧ IntsAt (some ⟨g20, 0, none⟩) g20 0 4 (fun k => if k = 0 then hi else 0) W := by
            by_cases h : L 20 = true
            · obtain ⟨g20, h1, h2⟩ : SlN hi (vals 20) W := hφ 20 h
              exact ⟨g20, fun _ => ⟨h1, h2⟩⟩
            · exact ⟨0, fun h' => absurd h' h⟩
          rcases (show i = 0 ∨ i = 1 ∨ i = 2 ∨ i = 3 ∨ i = 4 ∨ i = 5 ∨ i = 6 ∨ i = 7 ∨ i = 8 ∨ i = 9 ∨ i = 10 ∨ i = 11 ∨ i = 12 ∨ i = 13 ∨ i = 14 ∨ i = 15 ∨ i = 16 ∨ i = 17 ∨ i = 18 ∨ i = 19 ∨ i = 20 ∨ i = 21 ∨ i = 22 ∨ i = 23 ∨ i = 24 by omega) with rfl | rfl | rfl | rfl | rfl | rfl | rfl | rfl | rfl | rfl | rfl | rfl | rfl | rfl | rfl | rfl | rfl | rfl | rfl | rfl | rfl | rfl | rfl | rfl | rfl
          · have b0 := hS.cell mJ (i := 0) rfl
            have b1 := hS.cell mJ (i := 1) rfl
            have b2 := hS.cell mJ (i := 2) rfl
            have b3 := hS.cell mJ (i := 3) rfl
            dsimp only at b0 b1 b2 b3
            refine wpAt_of rfl rfl ?_
            simp only [frOf, Act.put]
            go_wp2_with fail
            first | exact ⟨trivial, rfl, Below.refl _ _, hS⟩ | exact ⟨rfl, Below.refl _ _, hS⟩
          · refine wpAt_of rfl rfl ?_
            simp only [frOf, Act.put]
            go_wp2_with fail
            first | exact ⟨trivial, rfl, Below.refl _ _, hS⟩ | exact ⟨rfl, Below.refl _ _, hS⟩
          · have k1 : vals 1 = .int .i64 n := hφ 1 (hd 1 (by decide))
            refine wpAt_of rfl rfl ?_
            simp only [frOf, Act.put]
            go_wp2_with fail
            first | exact ⟨trivial, slN_new n, (Below.refl _ _).alloc (Nat.le_refl _) _, HX.alloc _ hS⟩ | exact ⟨slN_new n, (Below.refl _ _).alloc (Nat.le_refl _) _, HX.alloc _ hS⟩
          · refine wpAt_of rfl rfl ?_
            simp only [frOf, Act.put]
            go_wp2_with fail
            first | exact ⟨trivial, rfl, Below.refl _ _, hS⟩ | exact ⟨rfl, Below.refl _ _, hS⟩
          · have k0 : vals 0 = .agg #[.bool true, .slice aJ nJ cJ, .int .i64 0, .int .i64 0] := hφ 0 (hd 0 (by decide))
            have k2 := (hq2 (hd 2 (by decide))).1
            have hq2' := (hq2 (hd 2 (by decide))).2
            have k3 : vals 3 = .slice (some ⟨Zb, 0, none⟩) 4 4 := hφ 3 (hd 3 (by decide))
            refine wpAt_of rfl rfl ?_
            simp only [frOf, Act.put]
            go_wp2_with fail
            refine (has_is true aJ gJ nJ cJ lJ hJ 0 0 g2 n Zb _ false (kJ.next hS.beh) hq2' (kZ.next hS.beh) qJ h1.out).mono ?_
            rintro e W' ⟨rfl, hb⟩
            go_wp2_with fail
            first | exact ⟨trivial, rfl, hb, HX.next hb hS⟩ | exact ⟨rfl, hb, HX.next hb hS⟩
          · refine wpAt_of rfl rfl ?_
            simp only [frOf, Act.put]
            go_wp2_with fail
            first | exact ⟨trivial, rfl, Below.refl _ _, hS⟩ | exact ⟨rfl, Below.refl _ _, hS⟩
          · refine wpAt_of rfl rfl ?_
            simp only [frOf, Act.put]
            go_wp2_with fail
            first | exact ⟨trivial, rfl, Below.refl _ _, hS⟩ | exact ⟨rfl, Below.refl _ _, hS⟩
          · have k6 : vals 6 = .pointer (some ⟨XC, 0, none⟩) := hφ 6 (hd 6 (by decide))
            have b0 := hS.cell mC (i := 0) rfl
            have b1 := hS.cell mC (i := 1) rfl
            have b2 := hS.cell mC (i := 2) rfl
            dsimp only at b0 b1 b2
            refine wpAt_of rfl rfl ?_
            simp only [frOf, Act.put]
            go_wp2_with fail
            first | exact ⟨trivial, rfl, Below.refl _ _, hS⟩ | exact ⟨rfl, Below.refl _ _, hS⟩
          · have k5 : vals 5 = .int .i64 n := hφ 5 (hd 5 (by decide))
            have k7 : vals 7 = .int .i64 lo := hφ 7 (hd 7 (by decide))
            refine wpAt_of rfl rfl ?_
            simp only [frOf, Act.put]
            go_wp2_with fail
            first | exact ⟨trivial, rfl, Below.refl _ _, hS⟩ | exact ⟨rfl, Below.refl _ _, hS⟩ | exact ⟨trivial, by simp [Is, ge], Below.refl _ _, hS⟩ | exact ⟨by simp [Is, ge], Below.refl _ _, hS⟩
          · have k8 : vals 8 = .bool false := hφ 8 (hd 8 (by decide))
            refine wpAt_of rfl rfl ?_
            simp only [frOf, Act.put]
            go_wp2_with fail
            first | exact ⟨trivial, rfl, Below.refl _ _, hS⟩ | exact ⟨rfl, Below.refl _ _, hS⟩
          · have k9 : vals 9 = .bool false := hφ 9 (hd 9 (by decide))
            simp only [wpAt, List.getElem?_toArray, List.getElem?_cons_succ, List.getElem?_cons_zero, slotOf, frOf, Act.put]
            go_wp2_with fail
            first | exact ⟨trivial, rfl, Below.refl _ _, hS⟩ | exact ⟨rfl, Below.refl _ _, hS⟩
          · have k9 : vals 9 = .bool false := hφ 9 (hd 9 (by decide))
            simp only [wpAt, List.getElem?_toArray, List.getElem?_cons_succ, List.getElem?_cons_zero, slotOf, frOf, Act.put]
            go_wp2_with fail
            first | exact ⟨trivial, rfl, Below.refl _ _, hS⟩ | exact ⟨rfl, Below.refl _ _, hS⟩
          · have k9 : vals 9 = .bool false := hφ 9 (hd 9 (by decide))
            simp only [wpAt, List.getElem?_toArray, List.getElem?_cons_succ, List.getElem?_cons_zero, slotOf, frOf, Act.put]
            go_wp2_with fail
            first | exact ⟨trivial, rfl, Below.refl _ _, hS⟩ | exact ⟨rfl, Below.refl _ _, hS⟩
          · have k9 : vals 9 = .bool false := hφ 9 (hd 9 (by decide))
            simp only [wpAt, List.getElem?_toArray, List.getElem?_cons_succ, List.getElem?_cons_zero, slotOf, frOf, Act.put]
            go_wp2_with fail
            first | exact ⟨trivial, rfl, Below.refl _ _, hS⟩ | exact ⟨rfl, Below.refl _ _, hS⟩
          · have k9 : vals 9 = .bool false := hφ 9 (hd 9 (by decide))
            have k13 : vals 13 = undef := hφ 13 (hd 13 (by decide))
            refine wpAt_of rfl rfl ?_
            simp only [frOf, Act.put]
            go_wp2_with fail
            first | exact ⟨trivial, rfl, Below.refl _ _, hS⟩ | exact ⟨rfl, Below.refl _ _, hS⟩
          · have k4 : vals 4 = .bool false := hφ 4 (hd 4 (by decide))
            have k14 : vals 14 = .bool false := hφ 14 (hd 14 (by decide))
            refine wpAt_of rfl rfl ?_
            simp only [frOf, Act.put]
            go_wp2_with fail
            first | exact ⟨trivial, rfl, Below.refl _ _, hS⟩ | exact ⟨rfl, Below.refl _ _, hS⟩
          · have k15 : vals 15 = .bool true := hφ 15 (hd 15 (by decide))
            refine wpAt_of rfl rfl ?_
            simp only [frOf, Act.put]
            go_wp2_with fail
            first | exact ⟨trivial, rfl, Below.refl _ _, hS⟩ | exact ⟨rfl, Below.refl _ _, hS⟩
          · have k16 : vals 16 = .bool true := hφ 16 (hd 16 (by decide))
            have b0 := hS.cell mJ (i := 0) rfl
            have b1 := hS.cell mJ (i := 1) rfl
            have b2 := hS.cell mJ (i := 2) rfl
            have b3 := hS.cell mJ (i := 3) rfl
            dsimp only at b0 b1 b2 b3
            simp only [wpAt, List.getElem?_toArray, List.getElem?_cons_succ, List.getElem?_cons_zero, slotOf, frOf, Act.put]
            go_wp2_with fail
            first | exact ⟨trivial, rfl, Below.refl _ _, hS⟩ | exact ⟨rfl, Below.refl _ _, hS⟩
          · have k16 : vals 16 = .bool true := hφ 16 (hd 16 (by decide))
            simp only [wpAt, List.getElem?_toArray, List.getElem?_cons_succ, List.getElem?_cons_zero, slotOf, frOf, Act.put]
            go_wp2_with fail
            first | exact ⟨trivial, rfl, Below.refl _ _, hS⟩ | exact ⟨rfl, Below.refl _ _, hS⟩
          · have k16 : vals 16 = .bool true := hφ 16 (hd 16 (by decide))
            have k18 : vals 18 = .pointer (some ⟨XC, 1, none⟩) := hφ 18 (hd 18 (by decide))
            have b0 := hS.cell mC (i := 0) rfl
            have b1 := hS.cell mC (i := 1) rfl
            have b2 := hS.cell mC (i := 2) rfl
            dsimp only at b0 b1 b2
            simp only [wpAt, List.getElem?_toArray, List.getElem?_cons_succ, List.getElem?_cons_zero, slotOf, frOf, Act.put]
            go_wp2_with fail
            first | exact ⟨trivial, rfl, Below.refl _ _, hS⟩ | exact ⟨rfl, Below.refl _ _, hS⟩
          · have k16 : vals 16 = .bool true := hφ 16 (hd 16 (by decide))
            have k19 : vals 19 = .int .i64 hi := hφ 19 (hd 19 (by decide))
            simp only [wpAt, List.getElem?_toArray, List.getElem?_cons_succ, List.getElem?_cons_zero, slotOf, frOf, Act.put]
            go_wp2_with fail
            first | exact ⟨trivial, slN_new hi, (Below.refl _ _).alloc (Nat.le_refl _) _, HX.alloc _ hS⟩ | exact ⟨slN_new hi, (Below.refl _ _).alloc (Nat.le_refl _) _, HX.alloc _ hS⟩
          · have k16 : vals 16 = .bool true := hφ 16 (hd 16 (by decide))
            simp only [wpAt, List.getElem?_toArray, List.getElem?_cons_succ, List.getElem?_cons_zero, slotOf, frOf, Act.put]
            go_wp2_with fail
            first | exact ⟨trivial, rfl, Below.refl _ _, hS⟩ | exact ⟨rfl, Below.refl _ _, hS⟩
          · have k16 : vals 16 = .bool true := hφ 16 (hd 16 (by decide))
            have k17 : vals 17 = .agg #[.bool true, .slice aJ nJ cJ, .int .i64 0, .int .i64 0] := hφ 17 (hd 17 (by decide))
            have k20 := (hq20 (hd 20 (by decide))).1
            have hq20' := (hq20 (hd 20 (by decide))).2
            have k21 : vals 21 = .slice (some ⟨Zb, 0, none⟩) 4 4 := hφ 21 (hd 21 (by decide))
            simp only [wpAt, List.getElem?_toArray, List.getElem?_cons_succ, List.getElem?_cons_zero, slotOf, frOf, Act.put]
            go_wp2_with fail
            refine (has_is true aJ gJ nJ cJ lJ hJ 0 0 g20 hi Zb _ true (kJ.next hS.beh) hq20' (kZ.next hS.beh) qJ h2.out).mono ?_
            rintro e W' ⟨rfl, hb⟩
            go_wp2_with fail
            first | exact ⟨trivial, rfl, hb, HX.next hb hS⟩ | exact ⟨rfl, hb, HX.next hb hS⟩
          · have k16 : vals 16 = .bool true := hφ 16 (hd 16 (by decide))
            have k22 : vals 22 = .bool true := hφ 22 (hd 22 (by decide))
            refine wpAt_of rfl rfl ?_
            simp only [frOf, Act.put]
            go_wp2_with fail
            first | exact ⟨trivial, rfl, Below.refl _ _, hS⟩ | exact ⟨rfl, Below.refl _ _, hS⟩
          · have k23 : vals 23 = .bool true := hφ 23 (hd 23 (by decide))
            refine wpAt_of rfl rfl ?_
            simp only [frOf, Act.put]
            go_wp2_with fail
            first | exact ⟨trivial, rfl, Below.refl _ _, hS⟩ | exact ⟨rfl, Below.refl _ _, hS⟩
        · intro L vals W hall hφ hS
          have k0 : vals 0 = .agg #[.bool true, .slice aJ nJ cJ, .int .i64 0, .int .i64 0] := hφ 0 (by decide)
          have k1 : vals 1 = .int .i64 n := hφ 1 (by decide)
          obtain ⟨g2, k2, _⟩ : SlN n (vals 2) W := hφ 2 (by decide)
          have k3 : vals 3 = .slice (some ⟨Zb, 0, none⟩) 4 4 := hφ 3 (by decide)
          have k4 : vals 4 = .bool false := hφ 4 (by decide)
          have k5 : vals 5 = .int .i64 n := hφ 5 (by decide)
          have k6 : vals 6 = .pointer (some ⟨XC, 0, none⟩) := hφ 6 (by decide)
          have k7 : vals 7 = .int .i64 lo := hφ 7 (by decide)
          have k8 : vals 8 = .bool false := hφ 8 (by decide)
          have k9 : vals 9 = .bool false := hφ 9 (by decide)
          have k10 : vals 10 = undef := hφ 10 (by decide)
          have k11 : vals 11 = undef := hφ 11 (by decide)
          have k12 : vals 12 = undef := hφ 12 (by decide)
          have k13 : vals 13 = undef := hφ 13 (by decide)
          have k14 : vals 14 = .bool false := hφ 14 (by decide)
          have k15 : vals 15 = .bool true := hφ 15 (by decide)
          have k16 : vals 16 = .bool true := hφ 16 (by decide)
          have k17 : vals 17 = .agg #[.bool true, .slice aJ nJ cJ, .int .i64 0, .int .i64 0] := hφ 17 (by decide)
          have k18 : vals 18 = .pointer (some ⟨XC, 1, none⟩) := hφ 18 (by decide)
          have k19 : vals 19 = .int .i64 hi := hφ 19 (by decide)
          obtain ⟨g20, k20, _⟩ : SlN hi (vals 20) W := hφ 20 (by decide)
          have k21 : vals 21 = .slice (some ⟨Zb, 0, none⟩) 4 4 := hφ 21 (by decide)
          have k22 : vals 22 = .bool true := hφ 22 (by decide)
          have k23 : vals 23 = .bool true := hφ 23 (by decide)
          have k24 : vals 24 = .bool true := hφ 24 (by decide)
          simp only [frOf, Act.put, List.setIfInBounds_toArray, List.set_cons_succ, List.set_cons_zero, k0, k1, k2, k3, k4, k5, k6, k7, k8, k9, k10, k11, k12, k13, k14, k15, k16, k17, k18, k19, k20, k21, k22, k23, k24]
          clear k0 k1 k2 k3 k4 k5 k6 k7 k8 k9 k10 k11 k12 k13 k14 k15 k16 k17 k18 k19 k20 k21 k22 k23 k24 hall hφ hS0
          go_wp2_with fail
          go_ret
          exact ⟨rfl, hS.below⟩
      by_cases le : n ≤ hi
      case neg =>
        have h1 : Hid (absHas true nJ lJ hJ 0 0 4 (fun k => if k = 0 then n else 0) 4 (fun k => if k = 0 then 0 else 0) = false) := (show _ = _ by rw [← en.out, ← el.out, ← eh.out, has_eq eon.out]; simp [le])
        clear eon en el eh hlh
        go_wp2_with fail
        refine region_inv3 [(0, 46), (1, 47), (2, 48), (3, 49), (4, 50), (5, 51), (6, 52), (7, 53), (8, 54), (9, 55), (10, 56), (11, 57), (12, 58), (13, 59), (14, 60), (15, 61), (16, 62), (17, 63), (18, 64), (19, 65), (20, 66), (21, 67), (22, 68), (23, 69), (24, 4)]
          (fun j v W => match j with
            | 0 => Is (.agg #[.bool true, .slice aJ nJ cJ, .int .i64 0, .int .i64 0]) v
            | 1 => Is (.int .i64 n) v
            | 2 => SlN n v W
            | 3 => Is (.slice (some ⟨Zb, 0, none⟩) 4 4) v
            | 4 => Is (.bool false) v
            | 5 => Is (.int .i64 n) v
            | 6 => Is (.pointer (some ⟨XC, 0, none⟩)) v
            | 7 => Is (.int .i64 lo) v
            | 8 => Is (.bool true) v
            | 9 => Is (.bool true) v
            | 10 => Is (.int .i64 n) v
            | 11 => Is (.pointer (some ⟨XC, 1, none⟩)) v
            | 12 => Is (.int .i64 hi) v
            | 13 => Is (.bool false) v
            | 14 => Is (.bool false) v
            | 15 => Is (.bool true) v
            | 16 => Is (.bool true) v
            | 17 => Is (.agg #[.bool true, .slice aJ nJ cJ, .int .i64 0, .int .i64 0]) v
            | 18 => Is (.pointer (some ⟨XC, 1, none⟩)) v
            | 19 => Is (.int .i64 hi) v
            | 20 => SlN hi v W
            | 21 => Is (.slice (some ⟨Zb, 0, none⟩) 4 4) v
            | 22 => Is (.bool true) v
            | 23 => Is (.bool true) v
            | 24 => Is (.bool true) v
            | _ => True)
          (fun _ W => HX w wy Lb W) TX
          (by kernel_rfl) (by kernel_rfl) (by kernel_rfl) (by kernel_rfl) (by kernel_rfl) rfl hS0 ?_ ?_ ?_
        · intro i j v W W' hji hφ hT
          match j, hφ with
          | 0, hφ => exact hφ
          | 1, hφ => exact hφ
          | 2, hφ => exact hφ.next hT
          | 3, hφ => exact hφ
          | 4, hφ => exact hφ
          | 5, hφ => exact hφ
          | 6, hφ => exact hφ
          | 7, hφ => exact hφ
          | 8, hφ => exact hφ
          | 9, hφ => exact hφ
          | 10, hφ => exact hφ
          | 11, hφ => exact hφ
          | 12, hφ => exact hφ
          | 13, hφ => exact hφ
          | 14, hφ => exact hφ
          | 15, hφ => exact hφ
          | 16, hφ => exact hφ
          | 17, hφ => exact hφ
          | 18, hφ => exact hφ
          | 19, hφ => exact hφ
          | 20, hφ => exact hφ.next hT
          | 21, hφ => exact hφ
          | 22, hφ => exact hφ
          | 23, hφ => exact hφ
          | 24, hφ => exact hφ
          | _ + 25, _ => trivial
        · intro i L vals W hi' hφ hS hL hd
          have hi2 : i < 25 := hi'
          clear hi'
          obtain ⟨g2, hq2⟩ : ∃ (g2 : Nat), L 2 = true → vals 2 = .slice (some ⟨g2, 0, none⟩) 4 4 ∧ IntsAt (some ⟨g2, 0, none⟩) g2 0 4 (fun k => if k = 0 then n else 0) W := by
            by_cases h : L 2 = true
            · obtain ⟨g2, h1, h2⟩ : SlN n (vals 2) W := hφ 2 h
              exact ⟨g2, fun _ => ⟨h1, h2⟩⟩
            · exact ⟨0, fun h' => absurd h' h⟩
          obtain ⟨g20, hq20⟩ : ∃ (g20 : Nat), L 20 = true → vals 20 = .slice (some ⟨g20, 0, none⟩) 4 4 ∧ IntsAt (some ⟨g20, 0, none⟩) g20 0 4 (fun k => if k = 0 then hi else 0) W := by
            by_cases h : L 20 = true
            · obtain ⟨g20, h1, h2⟩ : SlN hi (vals 20) W := hφ 20 h
              exact ⟨g20, fun _ => ⟨h1, h2⟩⟩
            · exact ⟨0, fun h' => absurd h' h⟩
          rcases (show i = 0 ∨ i = 1 ∨ i = 2 ∨ i = 3 ∨ i = 4 ∨ i = 5 ∨ i = 6 ∨ i = 7 ∨ i = 8 ∨ i = 9 ∨ i = 10 ∨ i = 11 ∨ i = 12 ∨ i = 13 ∨ i = 14 ∨ i = 15 ∨ i = 16 ∨ i = 17 ∨ i = 18 ∨ i = 19 ∨ i = 20 ∨ i = 21 ∨ i = 22 ∨ i = 23 ∨ i = 24 by omega) with rfl | rfl | rfl | rfl | rfl | rfl | rfl | rfl | rfl | rfl | rfl | rfl | rfl | rfl | rfl | rfl | rfl | rfl | rfl | rfl | rfl | rfl | rfl | rfl | rfl
          · have b0 := hS.cell mJ (i := 0) rfl
            have b1 := hS.cell mJ (i := 1) rfl
            have b2 := hS.cell mJ (i := 2) rfl
            have b3 := hS.cell mJ (i := 3) rfl
            dsimp only at b0 b1 b2 b3
            refine wpAt_of rfl rfl ?_
            simp only [frOf, Act.put]
            go_wp2_with fail
            first | exact ⟨trivial, rfl, Below.refl _ _, hS⟩ | exact ⟨rfl, Below.refl _ _, hS⟩
          · refine wpAt_of rfl rfl ?_
            simp only [frOf, Act.put]
            go_wp2_with fail
            first | exact ⟨trivial, rfl, Below.refl _ _, hS⟩ | exact ⟨rfl, Below.refl _ _, hS⟩
          · have k1 : vals 1 = .int .i64 n := hφ 1 (hd 1 (by decide))
            refine wpAt_of rfl rfl ?_
            simp only [frOf, Act.put]
            go_wp2_with fail
            first | exact ⟨trivial, slN_new n, (Below.refl _ _).alloc (Nat.le_refl _) _, HX.alloc _ hS⟩ | exact ⟨slN_new n, (Below.refl _ _).alloc (Nat.le_refl _) _, HX.alloc _ hS⟩
          · refine wpAt_of rfl rfl ?_
            simp only [frOf, Act.put]
            go_wp2_with fail
            first | exact ⟨trivial, rfl, Below.refl _ _, hS⟩ | exact ⟨rfl, Below.refl _ _, hS⟩
          · have k0 : vals 0 = .agg #[.bool true, .slice aJ nJ cJ, .int .i64 0, .int .i64 0] := hφ 0 (hd 0 (by decide))
            have k2 := (hq2 (hd 2 (by decide))).1
            have hq2' := (hq2 (hd 2 (by decide))).2
            have k3 : vals 3 = .slice (some ⟨Zb, 0, none⟩) 4 4 := hφ 3 (hd 3 (by decide))
            refine wpAt_of rfl rfl ?_
            simp only [frOf, Act.put]
            go_wp2_with fail
            refine (has_is true aJ gJ nJ cJ lJ hJ 0 0 g2 n Zb _ false (kJ.next hS.beh) hq2' (kZ.next hS.beh) qJ h1.out).mono ?_
            rintro e W' ⟨rfl, hb⟩
            go_wp2_with fail
            first | exact ⟨trivial, rfl, hb, HX.next hb hS⟩ | exact ⟨rfl, hb, HX.next hb hS⟩
          · refine wpAt_of rfl rfl ?_
            simp only [frOf, Act.put]
            go_wp2_with fail
            first | exact ⟨trivial, rfl, Below.refl _ _, hS⟩ | exact ⟨rfl, Below.refl _ _, hS⟩
          · refine wpAt_of rfl rfl ?_
            simp only [frOf, Act.put]
            go_wp2_with fail
            first | exact ⟨trivial, rfl, Below.refl _ _, hS⟩ | exact ⟨rfl, Below.refl _ _, hS⟩
          · have k6 : vals 6 = .pointer (some ⟨XC, 0, none⟩) := hφ 6 (hd 6 (by decide))
            have b0 := hS.cell mC (i := 0) rfl
            have b1 := hS.cell mC (i := 1) rfl
            have b2 := hS.cell mC (i := 2) rfl
            dsimp only at b0 b1 b2
            refine wpAt_of rfl rfl ?_
            simp only [frOf, Act.put]
            go_wp2_with fail
            first | exact ⟨trivial, rfl, Below.refl _ _, hS⟩ | exact ⟨rfl, Below.refl _ _, hS⟩
          · have k5 : vals 5 = .int .i64 n := hφ 5 (hd 5 (by decide))
            have k7 : vals 7 = .int .i64 lo := hφ 7 (hd 7 (by decide))
            refine wpAt_of rfl rfl ?_
            simp only [frOf, Act.put]
            go_wp2_with fail
            first | exact ⟨trivial, rfl, Below.refl _ _, hS⟩ | exact ⟨rfl, Below.refl _ _, hS⟩ | exact ⟨trivial, by simp [Is, ge], Below.refl _ _, hS⟩ | exact ⟨by simp [Is, ge], Below.refl _ _, hS⟩
          · have k8 : vals 8 = .bool true := hφ 8 (hd 8 (by decide))
            refine wpAt_of rfl rfl ?_
            simp only [frOf, Act.put]
            go_wp2_with fail
            first | exact ⟨trivial, rfl, Below.refl _ _, hS⟩ | exact ⟨rfl, Below.refl _ _, hS⟩
          · have k9 : vals 9 = .bool true := hφ 9 (hd 9 (by decide))
            simp only [wpAt, List.getElem?_toArray, List.getElem?_cons_succ, List.getElem?_cons_zero, slotOf, frOf, Act.put]
            go_wp2_with fail
            first | exact ⟨trivial, rfl, Below.refl _ _, hS⟩ | exact ⟨rfl, Below.refl _ _, hS⟩
          · have k9 : vals 9 = .bool true := hφ 9 (hd 9 (by decide))
            simp only [wpAt, List.getElem?_toArray, List.getElem?_cons_succ, List.getElem?_cons_zero, slotOf, frOf, Act.put]
            go_wp2_with fail
            first | exact ⟨trivial, rfl, Below.refl _ _, hS⟩ | exact ⟨rfl, Below.refl _ _, hS⟩
          · have k9 : vals 9 = .bool true := hφ 9 (hd 9 (by decide))
            have k11 : vals 11 = .pointer (some ⟨XC, 1, none⟩) := hφ 11 (hd 11 (by decide))
            have b0 := hS.cell mC (i := 0) rfl
            have b1 := hS.cell mC (i := 1) rfl
            have b2 := hS.cell mC (i := 2) rfl
            dsimp only at b0 b1 b2
            simp only [wpAt, List.getElem?_toArray, List.getElem?_cons_succ, List.getElem?_cons_zero, slotOf, frOf, Act.put]
            go_wp2_with fail
            first | exact ⟨trivial, rfl, Below.refl _ _, hS⟩ | exact ⟨rfl, Below.refl _ _, hS⟩
          · have k9 : vals 9 = .bool true := hφ 9 (hd 9 (by decide))
            have k10 : vals 10 = .int .i64 n := hφ 10 (hd 10 (by decide))
            have k12 : vals 12 = .int .i64 hi := hφ 12 (hd 12 (by decide))
            simp only [wpAt, List.getElem?_toArray, List.getElem?_cons_succ, List.getElem?_cons_zero, slotOf, frOf, Act.put]
            go_wp2_with fail
            first | exact ⟨trivial, rfl, Below.refl _ _, hS⟩ | exact ⟨rfl, Below.refl _ _, hS⟩ | exact ⟨trivial, by simp [Is, le], Below.refl _ _, hS⟩ | exact ⟨by simp [Is, le], Below.refl _ _, hS⟩
          · have k9 : vals 9 = .bool true := hφ 9 (hd 9 (by decide))
            have k13 : vals 13 = .bool false := hφ 13 (hd 13 (by decide))
            refine wpAt_of rfl rfl ?_
            simp only [frOf, Act.put]
            go_wp2_with fail
            first | exact ⟨trivial, rfl, Below.refl _ _, hS⟩ | exact ⟨rfl, Below.refl _ _, hS⟩
          · have k4 : vals 4 = .bool false := hφ 4 (hd 4 (by decide))
            have k14 : vals 14 = .bool false := hφ 14 (hd 14 (by decide))
            refine wpAt_of rfl rfl ?_
            simp only [frOf, Act.put]
            go_wp2_with fail
            first | exact ⟨trivial, rfl, Below.refl _ _, hS⟩ | exact ⟨rfl, Below.refl _ _, hS⟩
          · have k15 : vals 15 = .bool true := hφ 15 (hd 15 (by decide))
            refine wpAt_of rfl rfl ?_
            simp only [frOf, Act.put]
            go_wp2_with fail
            first | exact ⟨trivial, rfl, Below.refl _ _, hS⟩ | exact ⟨rfl, Below.refl _ _, hS⟩
          · have k16 : vals 16 = .bool true := hφ 16 (hd 16 (by decide))
            have b0 := hS.cell mJ (i := 0) rfl
            have b1 := hS.cell mJ (i := 1) rfl
            have b2 := hS.cell mJ (i := 2) rfl
            have b3 := hS.cell mJ (i := 3) rfl
            dsimp only at b0 b1 b2 b3
            simp only [wpAt, List.getElem?_toArray, List.getElem?_cons_succ, List.getElem?_cons_zero, slotOf, frOf, Act.put]
            go_wp2_with fail
            first | exact ⟨trivial, rfl, Below.refl _ _, hS⟩ | exact ⟨rfl, Below.refl _ _, hS⟩
          · have k16 : vals 16 = .bool true := hφ 16 (hd 16 (by decide))
            simp only [wpAt, List.getElem?_toArray, List.getElem?_cons_succ, List.getElem?_cons_zero, slotOf, frOf, Act.put]
            go_wp2_with fail
            first | exact ⟨trivial, rfl, Below.refl _ _, hS⟩ | exact ⟨rfl, Below.refl _ _, hS⟩
          · have k16 : vals 16 = .bool true := hφ 16 (hd 16 (by decide))
            have k18 : vals 18 = .pointer (some ⟨XC, 1, none⟩) := hφ 18 (hd 18 (by decide))
            have b0 := hS.cell mC (i := 0) rfl
            have b1 := hS.cell mC (i := 1) rfl
            have b2 := hS.cell mC (i := 2) rfl
            dsimp only at b0 b1 b2
            simp only [wpAt, List.getElem?_toArray, List.getElem?_cons_succ, List.getElem?_cons_zero, slotOf, frOf, Act.put]
            go_wp2_with fail
            first | exact ⟨trivial, rfl, Below.refl _ _, hS⟩ | exact ⟨rfl, Below.refl _ _, hS⟩
          · have k16 : vals 16 = .bool true := hφ 16 (hd 16 (by decide))
            have k19 : vals 19 = .int .i64 hi := hφ 19 (hd 19 (by decide))
            simp only [wpAt, List.getElem?_toArray, List.getElem?_cons_succ, List.getElem?_cons_zero, slotOf, frOf, Act.put]
            go_wp2_with fail
            first | exact ⟨trivial, slN_new hi, (Below.refl _ _).alloc (Nat.le_refl _) _, HX.alloc _ hS⟩ | exact ⟨slN_new hi, (Below.refl _ _).alloc (Nat.le_refl _) _, HX.alloc _ hS⟩
          · have k16 : vals 16 = .bool true := hφ 16 (hd 16 (by decide))
            simp only [wpAt, List.getElem?_toArray, List.getElem?_cons_succ, List.getElem?_cons_zero, slotOf, frOf, Act.put]
            go_wp2_with fail
            first | exact ⟨trivial, rfl, Below.refl _ _, hS⟩ | exact ⟨rfl, Below.refl _ _, hS⟩
          · have k16 : vals 16 = .bool true := hφ 16 (hd 16 (by decide))
            have k17 : vals 17 = .agg #[.bool true, .slice aJ nJ cJ, .int .i64 0, .int .i64 0] := hφ 17 (hd 17 (by decide))
            have k20 := (hq20 (hd 20 (by decide))).1
            have hq20' := (hq20 (hd 20 (by decide))).2
            have k21 : vals 21 = .slice (some ⟨Zb, 0, none⟩) 4 4 := hφ 21 (hd 21 (by decide))
            simp only [wpAt, List.getElem?_toArray, List.getElem?_cons_succ, List.getElem?_cons_zero, slotOf, frOf, Act.put]
            go_wp2_with fail
            refine (has_is true aJ gJ nJ cJ lJ hJ 0 0 g20 hi Zb _ true (kJ.next hS.beh) hq20' (kZ.next hS.beh) qJ h2.out).mono ?_
            rintro e W' ⟨rfl, hb⟩
            go_wp2_with fail
            first | exact ⟨trivial, rfl, hb, HX.next hb hS⟩ | exact ⟨rfl, hb, HX.next hb hS⟩
          · have k16 : vals 16 = .bool true := hφ 16 (hd 16 (by decide))
            have k22 : vals 22 = .bool true := hφ 22 (hd 22 (by decide))
            refine wpAt_of rfl rfl ?_
            simp only [frOf, Act.put]
            go_wp2_with fail
            first | exact ⟨trivial, rfl, Below.refl _ _, hS⟩ | exact ⟨rfl, Below.refl _ _, hS⟩
          · have k23 : vals 23 = .bool true := hφ 23 (hd 23 (by decide))
            refine wpAt_of rfl rfl ?_
            simp only [frOf, Act.put]
            go_wp2_with fail
            first | exact ⟨trivial, rfl, Below.refl _ _, hS⟩ | exact ⟨rfl, Below.refl _ _, hS⟩
        · intro L vals W hall hφ hS
          have k0 : vals 0 = .agg #[.bool true, .slice aJ nJ cJ, .int .i64 0, .int .i64 0] := hφ 0 (by decide)
          have k1 : vals 1 = .int .i64 n := hφ 1 (by decide)
          obtain ⟨g2, k2, _⟩ : SlN n (vals 2) W := hφ 2 (by decide)
          have k3 : vals 3 = .slice (some ⟨Zb, 0, none⟩) 4 4 := hφ 3 (by decide)
          have k4 : vals 4 = .bool false := hφ 4 (by decide)
          have k5 : vals 5 = .int .i64 n := hφ 5 (by decide)
          have k6 : vals 6 = .pointer (some ⟨XC, 0, none⟩) := hφ 6 (by decide)
          have k7 : vals 7 = .int .i64 lo := hφ 7 (by decide)
          have k8 : vals 8 = .bool true := hφ 8 (by decide)
          have k9 : vals 9 = .bool true := hφ 9 (by decide)
          have k10 : vals 10 = .int .i64 n := hφ 10 (by decide)
          have k11 : vals 11 = .pointer (some ⟨XC, 1, none⟩) := hφ 11 (by decide)
          have k12 : vals 12 = .int .i64 hi := hφ 12 (by decide)
          have k13 : vals 13 = .bool false := hφ 13 (by decide)
          have k14 : vals 14 = .bool false := hφ 14 (by decide)
          have k15 : vals 15 = .bool true := hφ 15 (by decide)
          have k16 : vals 16 = .bool true := hφ 16 (by decide)
          have k17 : vals 17 = .agg #[.bool true, .slice aJ nJ cJ, .int .i64 0, .int .i64 0] := hφ 17 (by decide)
          have k18 : vals 18 = .pointer (some ⟨XC, 1, none⟩) := hφ 18 (by decide)
          have k19 : vals 19 = .int .i64 hi := hφ 19 (by decide)
          obtain ⟨g20, k20, _⟩ : SlN hi (vals 20) W := hφ 20 (by decide)
          have k21 : vals 21 = .slice (some ⟨Zb, 0, none⟩) 4 4 := hφ 21 (by decide)
          have k22 : vals 22 = .bool true := hφ 22 (by decide)
          have k23 : vals 23 = .bool true := hφ 23 (by decide)
          have k24 : vals 24 = .bool true := hφ 24 (by decide)
          simp only [frOf, Act.put, List.setIfInBounds_toArray, List.set_cons_succ, List.set_cons_zero, k0, k1, k2, k3, k4, k5, k6, k7, k8, k9, k10, k11, k12, k13, k14, k15, k16, k17, k18, k19, k20, k21, k22, k23, k24]
          clear k0 k1 k2 k3 k4 k5 k6 k7 k8 k9 k10 k11 k12 k13 k14 k15 k16 k17 k18 k19 k20 k21 k22 k23 k24 hall hφ hS0
          go_wp2_with fail
          go_ret
          exact ⟨rfl, hS.below⟩
      case pos =>
        have h1 : Hid (absHas true nJ lJ hJ 0 0 4 (fun k => if k = 0 then n else 0) 4 (fun k => if k = 0 then 0 else 0) = true) := (show _ = _ by rw [← en.out, ← el.out, ← eh.out, has_eq eon.out]; simp [ge, le])
        clear eon en el eh hlh
        go_wp2_with fail
        refine region_inv3 [(0, 46), (1, 47), (2, 48), (3, 49), (4, 50), (5, 51), (6, 52), (7, 53), (8, 54), (9, 55), (10, 56), (11, 57), (12, 58), (13, 59), (14, 60), (15, 61), (16, 62), (17, 63), (18, 64), (19, 65), (20, 66), (21, 67), (22, 68), (23, 69), (24, 4)]
          (fun j v W => match j with
            | 0 => Is (.agg #[.bool true, .slice aJ nJ cJ, .int .i64 0, .int .i64 0]) v
            | 1 => Is (.int .i64 n) v
            | 2 => SlN n v W
            | 3 => Is (.slice (some ⟨Zb, 0, none⟩) 4 4) v
            | 4 => Is (.bool true) v
            | 5 => Is (.int .i64 n) v
            | 6 => Is (.pointer (some ⟨XC, 0, none⟩)) v
            | 7 => Is (.int .i64 lo) v
            | 8 => Is (.bool true) v
            | 9 => Is (.bool true) v
            | 10 => Is (.int .i64 n) v
            | 11 => Is (.pointer (some ⟨XC, 1, none⟩)) v
            | 12 => Is (.int .i64 hi) v
            | 13 => Is (.bool true) v
            | 14 => Is (.bool true) v
            | 15 => Is (.bool true) v
            | 16 => Is (.bool true) v
            | 17 => Is (.agg #[.bool true, .slice aJ nJ cJ, .int .i64 0, .int .i64 0]) v
            | 18 => Is (.pointer (some ⟨XC, 1, none⟩)) v
            | 19 => Is (.int .i64 hi) v
            | 20 => SlN hi v W
            | 21 => Is (.slice (some ⟨Zb, 0, none⟩) 4 4) v
            | 22 => Is (.bool true) v
            | 23 => Is (.bool true) v
            | 24 => Is (.bool true) v
            | _ => True)
          (fun _ W => HX w wy Lb W) TX
          (by kernel_rfl) (by kernel_rfl) (by kernel_rfl) (by kernel_rfl) (by kernel_rfl) rfl hS0 ?_ ?_ ?_
        · intro i j v W W' hji hφ hT
          match j, hφ with
          | 0, hφ => exact hφ
          | 1, hφ => exact hφ
          | 2, hφ => exact hφ.next hT
          | 3, hφ => exact hφ
          | 4, hφ => exact hφ
          | 5, hφ => exact hφ
          | 6, hφ => exact hφ
          | 7, hφ => exact hφ
          | 8, hφ => exact hφ
          | 9, hφ => exact hφ
          | 10, hφ => exact hφ
          | 11, hφ => exact hφ
          | 12, hφ => exact hφ
          | 13, hφ => exact hφ
          | 14, hφ => exact hφ
          | 15, hφ => exact hφ
          | 16, hφ => exact hφ
          | 17, hφ => exact hφ
          | 18, hφ => exact hφ
          | 19, hφ => exact hφ
          | 20, hφ => exact hφ.next hT
          | 21, hφ => exact hφ
          | 22, hφ => exact hφ
          | 23, hφ => exact hφ
          | 24, hφ => exact hφ
          | _ + 25, _ => trivial
        · intro i L vals W hi' hφ hS hL hd
          have hi2 : i < 25 := hi'
          clear hi'
          obtain ⟨g2, hq2⟩ : ∃ (g2 : Nat), L 2 = true → vals 2 = .slice (some ⟨g2, 0, none⟩) 4 4 ∧ IntsAt (some ⟨g2, 0, none⟩) g2 0 4 (fun k => if k = 0 then n else 0) W := by
            by_cases h : L 2 = true
            · obtain ⟨g2, h1, h2⟩ : SlN n (vals 2) W := hφ 2 h
              exact ⟨g2, fun _ => ⟨h1, h2⟩⟩
            · exact ⟨0, fun h' => absurd h' h⟩
          obtain ⟨g20, hq20⟩ : ∃ (g20 : Nat), L 20 = true → vals 20 = .slice (some ⟨g20, 0, none⟩) 4 4 ∧ IntsAt (some ⟨g20, 0, none⟩) g20 0 4 (fun k => if k = 0 then hi else 0) W := by
            by_cases h : L 20 = true
            · obtain ⟨g20, h1, h2⟩ : SlN hi (vals 20) W := hφ 20 h
              exact ⟨g20, fun _ => ⟨h1, h2⟩⟩
            · exact ⟨0, fun h' => absurd h' h⟩
          rcases (show i = 0 ∨ i = 1 ∨ i = 2 ∨ i = 3 ∨ i = 4 ∨ i = 5 ∨ i = 6 ∨ i = 7 ∨ i = 8 ∨ i = 9 ∨ i = 10 ∨ i = 11 ∨ i = 12 ∨ i = 13 ∨ i = 14 ∨ i = 15 ∨ i = 16 ∨ i = 17 ∨ i = 18 ∨ i = 19 ∨ i = 20 ∨ i = 21 ∨ i = 22 ∨ i = 23 ∨ i = 24 by omega) with rfl | rfl | rfl | rfl | rfl | rfl | rfl | rfl | rfl | rfl | rfl | rfl | rfl | rfl | rfl | rfl | rfl | rfl | rfl | rfl | rfl | rfl | rfl | rfl | rfl
          · have b0 := hS.cell mJ (i := 0) rfl
            have b1 := hS.cell mJ (i := 1) rfl
            have b2 := hS.cell mJ (i := 2) rfl
            have b3 := hS.cell mJ (i := 3) rfl
            dsimp only at b0 b1 b2 b3
            refine wpAt_of rfl rfl ?_
            simp only [frOf, Act.put]
            go_wp2_with fail
            first | exact ⟨trivial, rfl, Below.refl _ _, hS⟩ | exact ⟨rfl, Below.refl _ _, hS⟩
          · refine wpAt_of rfl rfl ?_
            simp only [frOf, Act.put]
            go_wp2_with fail
            first | exact ⟨trivial, rfl, Below.refl _ _, hS⟩ | exact ⟨rfl, Below.refl _ _, hS⟩
          · have k1 : vals 1 = .int .i64 n := hφ 1 (hd 1 (by decide))
            refine wpAt_of rfl rfl ?_
            simp only [frOf, Act.put]
            go_wp2_with fail
            first | exact ⟨trivial, slN_new n, (Below.refl _ _).alloc (Nat.le_refl _) _, HX.alloc _ hS⟩ | exact ⟨slN_new n, (Below.refl _ _).alloc (Nat.le_refl _) _, HX.alloc _ hS⟩
          · refine wpAt_of rfl rfl ?_
            simp only [frOf, Act.put]
            go_wp2_with fail
            first | exact ⟨trivial, rfl, Below.refl _ _, hS⟩ | exact ⟨rfl, Below.refl _ _, hS⟩
          · have k0 : vals 0 = .agg #[.bool true, .slice aJ nJ cJ, .int .i64 0, .int .i64 0] := hφ 0 (hd 0 (by decide))
            have k2 := (hq2 (hd 2 (by decide))).1
            have hq2' := (hq2 (hd 2 (by decide))).2
            have k3 : vals 3 = .slice (some ⟨Zb, 0, none⟩) 4 4 := hφ 3 (hd 3 (by decide))
            refine wpAt_of rfl rfl ?_
            simp only [frOf, Act.put]
            go_wp2_with fail
            refine (has_is true aJ gJ nJ cJ lJ hJ 0 0 g2 n Zb _ true (kJ.next hS.beh) hq2' (kZ.next hS.beh) qJ h1.out).mono ?_
            rintro e W' ⟨rfl, hb⟩
            go_wp2_with fail
            first | exact ⟨trivial, rfl, hb, HX.next hb hS⟩ | exact ⟨rfl, hb, HX.next hb hS⟩
          · refine wpAt_of rfl rfl ?_
            simp only [frOf, Act.put]
            go_wp2_with fail
            first | exact ⟨trivial, rfl, Below.refl _ _, hS⟩ | exact ⟨rfl, Below.refl _ _, hS⟩
          · refine wpAt_of rfl rfl ?_
            simp only [frOf, Act.put]
            go_wp2_with fail
            first | exact ⟨trivial, rfl, Below.refl _ _, hS⟩ | exact ⟨rfl, Below.refl _ _, hS⟩
          · have k6 : vals 6 = .pointer (some ⟨XC, 0, none⟩) := hφ 6 (hd 6 (by decide))
            have b0 := hS.cell mC (i := 0) rfl
            have b1 := hS.cell mC (i := 1) rfl
            have b2 := hS.cell mC (i := 2) rfl
            dsimp only at b0 b1 b2
            refine wpAt_of rfl rfl ?_
            simp only [frOf, Act.put]
            go_wp2_with fail
            first | exact ⟨trivial, rfl, Below.refl _ _, hS⟩ | exact ⟨rfl, Below.refl _ _, hS⟩
          · have k5 : vals 5 = .int .i64 n := hφ 5 (hd 5 (by decide))
            have k7 : vals 7 = .int .i64 lo := hφ 7 (hd 7 (by decide))
            refine wpAt_of rfl rfl ?_
            simp only [frOf, Act.put]
            go_wp2_with fail
            first | exact ⟨trivial, rfl, Below.refl _ _, hS⟩ | exact ⟨rfl, Below.refl _ _, hS⟩ | exact ⟨trivial, by simp [Is, ge], Below.refl _ _, hS⟩ | exact ⟨by simp [Is, ge], Below.refl _ _, hS⟩
          · have k8 : vals 8 = .bool true := hφ 8 (hd 8 (by decide))
            refine wpAt_of rfl rfl ?_
            simp only [frOf, Act.put]
            go_wp2_with fail
            first | exact ⟨trivial, rfl, Below.refl _ _, hS⟩ | exact ⟨rfl, Below.refl _ _, hS⟩
          · have k9 : vals 9 = .bool true := hφ 9 (hd 9 (by decide))
            simp only [wpAt, List.getElem?_toArray, List.getElem?_cons_succ, List.getElem?_cons_zero, slotOf, frOf, Act.put]
            go_wp2_with fail
            first | exact ⟨trivial, rfl, Below.refl _ _, hS⟩ | exact ⟨rfl, Below.refl _ _, hS⟩
          · have k9 : vals 9 = .bool true := hφ 9 (hd 9 (by decide))
            simp only [wpAt, List.getElem?_toArray, List.getElem?_cons_succ, List.getElem?_cons_zero, slotOf, frOf, Act.put]
            go_wp2_with fail
            first | exact ⟨trivial, rfl, Below.refl _ _, hS⟩ | exact ⟨rfl, Below.refl _ _, hS⟩
          · have k9 : vals 9 = .bool true := hφ 9 (hd 9 (by decide))
            have k11 : vals 11 = .pointer (some ⟨XC, 1, none⟩) := hφ 11 (hd 11 (by decide))
            have b0 := hS.cell mC (i := 0) rfl
            have b1 := hS.cell mC (i := 1) rfl
            have b2 := hS.cell mC (i := 2) rfl
            dsimp only at b0 b1 b2
            simp only [wpAt, List.getElem?_toArray, List.getElem?_cons_succ, List.getElem?_cons_zero, slotOf, frOf, Act.put]
            go_wp2_with fail
            first | exact ⟨trivial, rfl, Below.refl _ _, hS⟩ | exact ⟨rfl, Below.refl _ _, hS⟩
          · have k9 : vals 9 = .bool true := hφ 9 (hd 9 (by decide))
            have k10 : vals 10 = .int .i64 n := hφ 10 (hd 10 (by decide))
            have k12 : vals 12 = .int .i64 hi := hφ 12 (hd 12 (by decide))
            simp only [wpAt, List.getElem?_toArray, List.getElem?_cons_succ, List.getElem?_cons_zero, slotOf, frOf, Act.put]
            go_wp2_with fail
            first | exact ⟨trivial, rfl, Below.refl _ _, hS⟩ | exact ⟨rfl, Below.refl _ _, hS⟩ | exact ⟨trivial, by simp [Is, le], Below.refl _ _, hS⟩ | exact ⟨by simp [Is, le], Below.refl _ _, hS⟩
          · have k9 : vals 9 = .bool true := hφ 9 (hd 9 (by decide))
            have k13 : vals 13 = .bool true := hφ 13 (hd 13 (by decide))
            refine wpAt_of rfl rfl ?_
            simp only [frOf, Act.put]
            go_wp2_with fail
            first | exact ⟨trivial, rfl, Below.refl _ _, hS⟩ | exact ⟨rfl, Below.refl _ _, hS⟩
          · have k4 : vals 4 = .bool true := hφ 4 (hd 4 (by decide))
            have k14 : vals 14 = .bool true := hφ 14 (hd 14 (by decide))
            refine wpAt_of rfl rfl ?_
            simp only [frOf, Act.put]
            go_wp2_with fail
            first | exact ⟨trivial, rfl, Below.refl _ _, hS⟩ | exact ⟨rfl, Below.refl _ _, hS⟩
          · have k15 : vals 15 = .bool true := hφ 15 (hd 15 (by decide))
            refine wpAt_of rfl rfl ?_
            simp only [frOf, Act.put]
            go_wp2_with fail
            first | exact ⟨trivial, rfl, Below.refl _ _, hS⟩ | exact ⟨rfl, Below.refl _ _, hS⟩
          · have k16 : vals 16 = .bool true := hφ 16 (hd 16 (by decide))
            have b0 := hS.cell mJ (i := 0) rfl
            have b1 := hS.cell mJ (i := 1) rfl
            have b2 := hS.cell mJ (i := 2) rfl
            have b3 := hS.cell mJ (i := 3) rfl
            dsimp only at b0 b1 b2 b3
            simp only [wpAt, List.getElem?_toArray, List.getElem?_cons_succ, List.getElem?_cons_zero, slotOf, frOf, Act.put]
            go_wp2_with fail
            first | exact ⟨trivial, rfl, Below.refl _ _, hS⟩ | exact ⟨rfl, Below.refl _ _, hS⟩
          · have k16 : vals 16 = .bool true := hφ 16 (hd 16 (by decide))
            simp only [wpAt, List.getElem?_toArray, List.getElem?_cons_succ, List.getElem?_cons_zero, slotOf, frOf, Act.put]
            go_wp2_with fail
            first | exact ⟨trivial, rfl, Below.refl _ _, hS⟩ | exact ⟨rfl, Below.refl _ _, hS⟩
          · have k16 : vals 16 = .bool true := hφ 16 (hd 16 (by decide))
            have k18 : vals 18 = .pointer (some ⟨XC, 1, none⟩) := hφ 18 (hd 18 (by decide))
            have b0 := hS.cell mC (i := 0) rfl
            have b1 := hS.cell mC (i := 1) rfl
            have b2 := hS.cell mC (i := 2) rfl
            dsimp only at b0 b1 b2
            simp only [wpAt, List.getElem?_toArray, List.getElem?_cons_succ, List.getElem?_cons_zero, slotOf, frOf, Act.put]
            go_wp2_with fail
            first | exact ⟨trivial, rfl, Below.refl _ _, hS⟩ | exact ⟨rfl, Below.refl _ _, hS⟩
          · have k16 : vals 16 = .bool true := hφ 16 (hd 16 (by decide))
            have k19 : vals 19 = .int .i64 hi := hφ 19 (hd 19 (by decide))
            simp only [wpAt, List.getElem?_toArray, List.getElem?_cons_succ, List.getElem?_cons_zero, slotOf, frOf, Act.put]
            go_wp2_with fail
            first | exact ⟨trivial, slN_new hi, (Below.refl _ _).alloc (Nat.le_refl _) _, HX.alloc _ hS⟩ | exact ⟨slN_new hi, (Below.refl _ _).alloc (Nat.le_refl _) _, HX.alloc _ hS⟩
          · have k16 : vals 16 = .bool true := hφ 16 (hd 16 (by decide))
            simp only [wpAt, List.getElem?_toArray, List.getElem?_cons_succ, List.getElem?_cons_zero, slotOf, frOf, Act.put]
            go_wp2_with fail
            first | exact ⟨trivial, rfl, Below.refl _ _, hS⟩ | exact ⟨rfl, Below.refl _ _, hS⟩
          · have k16 : vals 16 = .bool true := hφ 16 (hd 16 (by decide))
            have k17 : vals 17 = .agg #[.bool true, .slice aJ nJ cJ, .int .i64 0, .int .i64 0] := hφ 17 (hd 17 (by decide))
            have k20 := (hq20 (hd 20 (by decide))).1
            have hq20' := (hq20 (hd 20 (by decide))).2
            have k21 : vals 21 = .slice (some ⟨Zb, 0, none⟩) 4 4 := hφ 21 (hd 21 (by decide))
            simp only [wpAt, List.getElem?_toArray, List.getElem?_cons_succ, List.getElem?_cons_zero, slotOf, frOf, Act.put]
            go_wp2_with fail
            refine (has_is true aJ gJ nJ cJ lJ hJ 0 0 g20 hi Zb _ true (kJ.next hS.beh) hq20' (kZ.next hS.beh) qJ h2.out).mono ?_
            rintro e W' ⟨rfl, hb⟩
            go_wp2_with fail
            first | exact ⟨trivial, rfl, hb, HX.next hb hS⟩ | exact ⟨rfl, hb, HX.next hb hS⟩
          · have k16 : vals 16 = .bool true := hφ 16 (hd 16 (by decide))
            have k22 : vals 22 = .bool true := hφ 22 (hd 22 (by decide))
            refine wpAt_of rfl rfl ?_
            simp only [frOf, Act.put]
            go_wp2_with fail
            first | exact ⟨trivial, rfl, Below.refl _ _, hS⟩ | exact ⟨rfl, Below.refl _ _, hS⟩
          · have k23 : vals 23 = .bool true := hφ 23 (hd 23 (by decide))
            refine wpAt_of rfl rfl ?_
            simp only [frOf, Act.put]
            go_wp2_with fail
            first | exact ⟨trivial, rfl, Below.refl _ _, hS⟩ | exact ⟨rfl, Below.refl _ _, hS⟩
        · intro L vals W hall hφ hS
          have k0 : vals 0 = .agg #[.bool true, .slice aJ nJ cJ, .int .i64 0, .int .i64 0] := hφ 0 (by decide)
          have k1 : vals 1 = .int .i64 n := hφ 1 (by decide)
          obtain ⟨g2, k2, _⟩ : SlN n (vals 2) W := hφ 2 (by decide)
          have k3 : vals 3 = .slice (some ⟨Zb, 0, none⟩) 4 4 := hφ 3 (by decide)
          have k4 : vals 4 = .bool true := hφ 4 (by decide)
          have k5 : vals 5 = .int .i64 n := hφ 5 (by decide)
          have k6 : vals 6 = .pointer (some ⟨XC, 0, none⟩) := hφ 6 (by decide)
          have k7 : vals 7 = .int .i64 lo := hφ 7 (by decide)
          have k8 : vals 8 = .bool true := hφ 8 (by decide)
          have k9 : vals 9 = .bool true := hφ 9 (by decide)
          have k10 : vals 10 = .int .i64 n := hφ 10 (by decide)
          have k11 : vals 11 = .pointer (some ⟨XC, 1, none⟩) := hφ 11 (by decide)
          have k12 : vals 12 = .int .i64 hi := hφ 12 (by decide)
          have k13 : vals 13 = .bool true := hφ 13 (by decide)
          have k14 : vals 14 = .bool true := hφ 14 (by decide)
          have k15 : vals 15 = .bool true := hφ 15 (by decide)
          have k16 : vals 16 = .bool true := hφ 16 (by decide)
          have k17 : vals 17 = .agg #[.bool true, .slice aJ nJ cJ, .int .i64 0, .int .i64 0] := hφ 17 (by decide)
          have k18 : vals 18 = .pointer (some ⟨XC, 1, none⟩) := hφ 18 (by decide)
          have k19 : vals 19 = .int .i64 hi := hφ 19 (by decide)
          obtain ⟨g20, k20, _⟩ : SlN hi (vals 20) W := hφ 20 (by decide)
          have k21 : vals 21 = .slice (some ⟨Zb, 0, none⟩) 4 4 := hφ 21 (by decide)
          have k22 : vals 22 = .bool true := hφ 22 (by decide)
          have k23 : vals 23 = .bool true := hφ 23 (by decide)
          have k24 : vals 24 = .bool true := hφ 24 (by decide)
          simp only [frOf, Act.put, List.setIfInBounds_toArray, List.set_cons_succ, List.set_cons_zero, k0, k1, k2, k3, k4, k5, k6, k7, k8, k9, k10, k11, k12, k13, k14, k15, k16, k17, k18, k19, k20, k21, k22, k23, k24]
          clear k0 k1 k2 k3 k4 k5 k6 k7 k8 k9 k10 k11 k12 k13 k14 k15 k16 k17 k18 k19 k20 k21 k22 k23 k24 hall hφ hS0
          go_wp2_with fail
          go_ret
          exact ⟨rfl, hS.below⟩

set_option maxRecDepth 100000 in
theorem contract (H : Type) (enc : TypeId × Value → H) (W : World) (base : Nat) (args : Array Value) (ds gs : List (DataW H)) (before : List MemPlace)
    (hval : ∀ (j : Nat) t v, Try.f5.params[j]? = some t → args[j]? = some v → Value.okWide Try.prog W .any base t v)
    (hW : DataW.Whole enc Try.prog Try.f5.params.toList Rows.fnAbsEntrySpec.vars false W args.toList ds gs before) :
    Calls Try.prog 5 args W fun e W' => ∃ v, e = .returned v ∧ Rows.fnAbsEntrySpec.post enc Try.prog Try.f5 false true false false W args v W' := by
  have hW' := hW
  obtain ⟨p, q, hA0, hV, rfl, hfz, hnd⟩ := hW
  have hA : DataW.TrodAll enc Try.prog W 0 (fun _ => true) true Try.f5.params.toList args.toList ds p := hA0
  rw [Try.params5] at hA hval
  obtain ⟨v0, vs0, d0, ds0, p0, q0, hargs, rfl, rfl, h0, r0'⟩ := trodAll_cons hA
  obtain ⟨v1, vs1, d1, ds1, p1, q1, rfl, rfl, rfl, h1, r1'⟩ := trodAll_cons r0'
  obtain ⟨rfl, rfl, rfl⟩ := trodAll_nil r1'
  obtain rfl : args = #[v0, v1] := by cases args; simp_all
  obtain ⟨rfl, rfl⟩ := trodVars_none hV
  obtain ⟨a0, len0, cap0, rfl⟩ := okWide_slice Try.underlying22 (hval 0 22 v0 rfl rfl)
  have k0 := h0
  have lt0 : ∀ x ∈ p0, x.block < W.heap.size := by obtain ⟨m, hm⟩ := k0; exact DataW.trod_lt m _ _ _ hm
  obtain ⟨z0, hz0, r0⟩ : ∃ z : Nat → Int, (∀ i, 0 ≤ z i ∧ z i ≤ 255) ∧ Bytes W a0 len0 cap0 z := by
    obtain ⟨fuel, hf⟩ := h0
    rcases open_ints Try.underlying22 Try.underlying5 (by kernel_rfl) hf with ⟨hcs, _⟩ | ⟨x, l, c, zs, hcs, _, hl, hm, hz, _, hcell, hwz⟩
    · simp [Value.cells] at hcs
      obtain ⟨rfl, rfl, rfl⟩ := hcs
      exact ⟨fun _ => 0, fun _ => by simp, .inl rfl⟩
    · simp [Value.cells] at hcs
      obtain ⟨rfl, rfl, rfl⟩ := hcs
      exact bytes_of hl (by simpa using hz) hcell hwz
  obtain ⟨a1, len1, cap1, rfl⟩ := okWide_slice Try.underlying22 (hval 1 22 v1 rfl rfl)
  have k1 := h1
  have lt1 : ∀ x ∈ p1, x.block < W.heap.size := by obtain ⟨m, hm⟩ := k1; exact DataW.trod_lt m _ _ _ hm
  obtain ⟨z1, hz1, r1⟩ : ∃ z : Nat → Int, (∀ i, 0 ≤ z i ∧ z i ≤ 255) ∧ Bytes W a1 len1 cap1 z := by
    obtain ⟨fuel, hf⟩ := h1
    rcases open_ints Try.underlying22 Try.underlying5 (by kernel_rfl) hf with ⟨hcs, _⟩ | ⟨x, l, c, zs, hcs, _, hl, hm, hz, _, hcell, hwz⟩
    · simp [Value.cells] at hcs
      obtain ⟨rfl, rfl, rfl⟩ := hcs
      exact ⟨fun _ => 0, fun _ => by simp, .inl rfl⟩
    · simp [Value.cells] at hcs
      obtain ⟨rfl, rfl, rfl⟩ := hcs
      exact bytes_of hl (by simpa using hz) hcell hwz
  clear hA0
  refine (walk a0 len0 cap0 z0 a1 len1 cap1 z1 W hz0 r0 hz1 r1).mono fun e W' ⟨he, bel⟩ => ?_
  subst he
  exact ⟨_, rfl, _, _, _, [], _, [], hW', trodAll_mk1 (shut_bool Try.underlying4 _), (trodAll_cons_mk (Below.trod laidOut (by kernel_rfl) (of_decide_eq_true (by kernel_rfl)) k0 bel lt0) (trodAll_cons_mk (Below.trod laidOut (by kernel_rfl) (of_decide_eq_true (by kernel_rfl)) k1 bel lt1) trodAll_mk0)), rfl, bel.frame _, fun h => by cases h⟩

set_option maxRecDepth 100000 in
theorem lifted (os : Os) (started : os.Started) (H : Type) (enc : TypeId × Value → H) :
    ReturnsInHanded {} Try.checked os 5 .any (Rows.fnAbsEntrySpec.pre6 enc Try.prog Try.f5 Rows.fnAbsEntryRow.domain false) (Rows.fnAbsEntrySpec.post enc Try.prog Try.f5 false true false false) := by
  refine returnsInHanded_of_change (C := Try.checked) own started (by kernel_rfl) Try.func5
    (ChangeSpec.witness6 (enc := enc) (C := Try.checked) false ⟨#[], #[.slice none 0 0, .slice none 0 0], []⟩ 8 (by kernel_rfl) (by kernel_rfl) (by kernel_rfl) (by kernel_rfl)) ?_
  intro W base args ds gs before hval hW _ _
  exact contract H enc W base args ds gs before hval hW

theorem proved : Rows.FnAbsEntrySaid :=
  OpenClaim.holds_of_wide 5 Try.f5 rfl rfl rfl rfl rfl rfl rfl ⟨rfl, rfl, rfl, rfl, rfl⟩ rfl rfl rfl rfl rfl (by kernel_rfl) Try.func5 (by kernel_rfl)
    (of_decide_eq_true (by kernel_rfl)) (by unfold Func.isWrapper; first | (rw [if_pos (by decide +kernel)]; kernel_rfl) | (rw [if_neg (by decide +kernel)]; exact ⟨rfl, rfl⟩))
    (fun os started H enc _ => lifted os started H enc)
#print axioms proved
end Go.Proofs.Ytiehokibfdaleaa.fnAbsEntry
