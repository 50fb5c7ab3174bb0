/- Whatever bytes are handed in, the law FnAbsHas returns true. Of more than 1048576 bytes the law itself answers true. No condition. -/
import Derived.Test.YtiehokibfdaleaaG14
import Derived.Test.YtiehokibfdaleaaG18
import Derived.Test.YtiehokibfdaleaaG15
import Derived.Test.YtiehokibfdaleaaG19
import Derived.Test.YtiehokibfdaleaaG9
import Derived.Test.YtiehokibfdaleaaG11
import Derived.Test.YtiehokibfdaleaaG2
import Derived.Test.YtiehokibfdaleaaG8
import Derived.Deep.RegionHeld3
import Derived.Deep.DeepCutAuto
import Derived.WalkKit
import Derived.ProofKit
import Derived.OpenShut
import Derived.ShutString
import Derived.ChangeOld
import Derived.Below
namespace Go.Proofs.Ytiehokibfdaleaa.fnAbsHas
open Go.ChangeShapes Go.WideShapes Go.ChangeAt Go.RowKit
open Go.ChangeMaps (open_string shut_string)
set_option linter.unusedVariables false

theorem own : ownKnob Try.prog.godebug = none := by kernel_rfl
theorem laidOut : laidOutB Try.prog = true := by kernel_rfl

theorem owOkA (w : World) : Calls Try.prog 11 #[] w fun e w' => e = .returned (.bool true) ∧ w' = w := by
  go_enter Try.func11, Try.ntmps11
  go_wp2_with (go_at_call 29; refine (okI _ _).mono ?_; rintro e w' ⟨rfl, rfl⟩)
  go_ret
  exact ⟨rfl, rfl⟩
theorem hasI_is (onA : Bool) (aA : Option Addr) (gA nA cA : Nat) (lA hA : Nat → Int) (xA yA : Int) (a6 : Option Addr) (g6 n6 c6 : Nat) (z6 : Nat → Int) (a7 : Option Addr) (g7 n7 c7 : Nat) (z7 : Nat → Int) (q : Bool) (w : World) (q1 : nA ≤ 1048576) (q2 : n6 ≤ 1048576) (q3 : n7 ≤ 1048576) (kA : BndsAt aA gA 0 nA lA hA w) (h1 : IntsAt a6 g6 0 n6 z6 w) (h2 : IntsAt a7 g7 0 n7 z7 w) (hq : absHas onA nA lA hA xA yA n6 z6 n7 z7 = q) :
    Calls Try.prog 15 #[.agg #[.bool onA, .slice aA nA cA, .int .i64 xA, .int .i64 yA], .slice a6 n6 c6, .slice a7 n7 c7] w fun e w' => e = .returned (.bool q) ∧ Below w.heap.size w w' := by
  subst hq
  exact absHasI _ _ _ _ _ _ _ _ _ _ _ _ _ _ _ _ _ _ _ _ _ _ w q1 q2 q3 kA h1 h2
theorem hasS_is (onA : Bool) (aA : Option Addr) (gA nA cA : Nat) (lA hA : Nat → Int) (xA yA : Int) (a6 : Option Addr) (g6 n6 c6 : Nat) (z6 : Nat → Int) (a7 : Option Addr) (g7 n7 c7 : Nat) (z7 : Nat → Int) (q : Bool) (w : World) (kA : BndsAt aA gA 0 nA lA hA w) (h1 : IntsAt a6 g6 0 n6 z6 w) (h2 : IntsAt a7 g7 0 n7 z7 w) (hq : absHas onA nA lA hA xA yA n6 z6 n7 z7 = q) :
    Calls Try.prog 16 #[.agg #[.bool onA, .slice aA nA cA, .int .i64 xA, .int .i64 yA], .slice a6 n6 c6, .slice a7 n7 c7] w fun e w' => e = .returned (.bool q) ∧ Below w.heap.size w w' := by
  subst hq
  exact absHasS _ _ _ _ _ _ _ _ _ _ _ _ _ _ _ _ _ _ _ _ _ _ w kA h1 h2
theorem okI_is (onA : Bool) (aA : Option Addr) (gA nA cA : Nat) (lA hA : Nat → Int) (xA yA : Int) (q : Bool) (w : World) (q1 : nA ≤ 1048576) (kA : BndsAt aA gA 0 nA lA hA w) (hq : okT ⟨onA, nA, lA, hA, xA, yA⟩ = q) :
    Calls Try.prog 17 #[.agg #[.bool onA, .slice aA nA cA, .int .i64 xA, .int .i64 yA]] w fun e w' => e = .returned (.bool q) ∧ Below w.heap.size w w' := by
  subst hq
  exact absOkI _ _ _ _ _ _ _ _ _ _ w q1 kA
def hasS (s : St) (n1 : Nat) (z : Nat → Int) (n2 : Nat) (y : Nat → Int) : Bool := absHas s.on s.n s.lo s.hi s.c s.d n1 z n2 y
theorem hasTo_iff {lo hi z : Nat → Int} (h : ∀ k, k < 4 → OkP (lo k) (hi k)) : hasTo lo hi z 4 = true ↔ ∀ k, k < 4 → lo k ≤ z k ∧ z k ≤ hi k := by
  have e : ∀ k, k < 4 → (itvHas (lo k) (hi k) (z k) = true ↔ lo k ≤ z k ∧ z k ≤ hi k) := fun k hk => by
    unfold itvHas
    rw [itvOk_iff.2 (h k hk)]
    simp
  simp only [hasTo, Bool.and_eq_true, true_and]
  constructor
  · rintro ⟨⟨⟨h0, h1⟩, h2⟩, h3⟩ k hk
    rcases (show k = 0 ∨ k = 1 ∨ k = 2 ∨ k = 3 by omega) with rfl | rfl | rfl | rfl
    · exact (e 0 (by omega)).1 h0
    · exact (e 1 (by omega)).1 h1
    · exact (e 2 (by omega)).1 h2
    · exact (e 3 (by omega)).1 h3
  · exact fun h => ⟨⟨⟨(e 0 (by omega)).2 (h 0 (by omega)), (e 1 (by omega)).2 (h 1 (by omega))⟩, (e 2 (by omega)).2 (h 2 (by omega))⟩, (e 3 (by omega)).2 (h 3 (by omega))⟩
/-- What has the variables and cells. -/
theorem hasS_iff {s : St} {n1 n2 : Nat} {z y : Nat → Int} : hasS s n1 z n2 y = true ↔ okT s = true ∧ s.on = true ∧ n1 = 4 ∧ n2 = 4 ∧ (∀ k, k < 4 → s.lo k ≤ z k ∧ z k ≤ s.hi k) ∧ ∀ k, k < 4 → s.c ≤ y k ∧ y k ≤ s.d := by
  unfold hasS absHas
  rw [show absOk s.on s.n s.lo s.hi s.c s.d = okT s from rfl]
  cases h1 : okT s with
  | false => simp
  | true =>
    cases h2 : s.on with
    | false => simp
    | true =>
      obtain ⟨p1, p2, p3⟩ := (okT_on h2).1 h1
      simp only [Bool.and_eq_true, Bool.true_and, decide_eq_true_eq, true_and, hasTo_iff p3, hasTo_iff (lo := fun _ => s.c) (hi := fun _ => s.d) (fun _ _ => p2)]
      constructor
      · rintro ⟨⟨⟨a, b⟩, c⟩, d⟩
        exact ⟨a, b, c, d⟩
      · rintro ⟨a, b, c, d⟩
        exact ⟨⟨⟨a, b⟩, c⟩, d⟩
theorem hasS_mono {s t : St} {n1 n2 : Nat} {z y : Nat → Int} (h : hasS s n1 z n2 y = true) (ht : okT t = true) (hi : inT s t = true) : hasS t n1 z n2 y = true := by
  obtain ⟨h1, h2, h3, h4, h5, h6⟩ := hasS_iff.1 h
  obtain ⟨i1, i2, i3⟩ := (inT_iff h1 ht).1 hi h2
  refine hasS_iff.2 ⟨ht, i1, h3, h4, fun k hk => ?_, fun k hk => ?_⟩
  · have := h5 k hk
    have := i3 k hk
    omega
  · have := h6 k hk
    omega

set_option maxRecDepth 10000 in
set_option maxHeartbeats 40000000 in
theorem walk (a0 : Option Addr) (len0 cap0 : Nat) (z0 : Nat → Int) (a1 : Option Addr) (len1 cap1 : Nat) (z1 : Nat → Int) (w : World) (hz0 : ∀ i, 0 ≤ z0 i ∧ z0 i ≤ 255) (r0 : Bytes w a0 len0 cap0 z0) (hz1 : ∀ i, 0 ≤ z1 i ∧ z1 i ≤ 255) (r1 : Bytes w a1 len1 cap1 z1) :
    Calls Try.prog 4 #[.slice a0 len0 cap0, .slice a1 len1 cap1] w fun e w' => e = .returned (.bool true) ∧ Below w.heap.size w w' := by
  by_cases hl0 : len0 ≤ 1048576
  case neg =>
    have hi : (1048576 : Int) < (len0 : Int) := by omega
    go_enter Try.func4, Try.ntmps4
    go_wp2_with fail
    go_ret
    exact ⟨rfl, Below.refl _ _⟩
  have hi0 : ¬ (1048576 : Int) < (len0 : Int) := by omega
  by_cases hl1 : len1 ≤ 1048576
  case neg =>
    have hi : (1048576 : Int) < (len1 : Int) := by omega
    go_enter Try.func4, Try.ntmps4
    go_wp2_with fail
    go_ret
    exact ⟨rfl, Below.refl _ _⟩
  have hi1 : ¬ (1048576 : Int) < (len1 : Int) := by omega
  go_enter Try.func4, Try.ntmps4
  go_wp2_with fail
  refine (drawAbsHas a0 len0 cap0 z0 _ hz0 hl0 r0).mono ?_
  rintro e w1 ⟨v1, v2, v3, d1, d2, d3, rfl, b1⟩
  have ed1 := d1
  obtain ⟨onS, aS, _, nS, cS, _, xS, yS, rfl, _, _, _⟩ := ed1
  obtain ⟨gS, lS, uS, ES⟩ := d1.told
  obtain ⟨g6, n6, c6, z6, rfl, _, m6, _, l6, f6⟩ := d2
  obtain ⟨g7, n7, c7, z7, rfl, _, m7, _, l7, f7⟩ := d3
  have H1 : HeldL w [(w1.heap.size, [Value.bool onS, .slice aS nS cS, .int .i64 xS, .int .i64 yS])] (w1.alloc (.cells #[.bool onS, .slice aS nS cS, .int .i64 xS, .int .i64 yS] 27)) := HeldL.newL (vs := [Value.bool onS, .slice aS nS cS, .int .i64 xS, .int .i64 yS]) ((HeldL.nil w).next b1)
  have bb1 : Below w1.heap.size w1 (w1.alloc (.cells #[.bool onS, .slice aS nS cS, .int .i64 xS, .int .i64 yS] 27)) := (Below.refl _ _).alloc (Nat.le_refl _) _
  have kS := ES.at_.next bb1
  have k6 : IntsAt (some ⟨g6, 0, none⟩) g6 0 n6 z6 (w1.alloc (.cells #[.bool onS, .slice aS nS cS, .int .i64 xS, .int .i64 yS] 27)) := IntsAt.next ⟨fun _ => rfl, fun _ => l6, fun k hk => by rw [Nat.zero_add]; exact f6 k hk⟩ bb1
  have k7 : IntsAt (some ⟨g7, 0, none⟩) g7 0 n7 z7 (w1.alloc (.cells #[.bool onS, .slice aS nS cS, .int .i64 xS, .int .i64 yS] 27)) := IntsAt.next ⟨fun _ => rfl, fun _ => l7, fun k hk => by rw [Nat.zero_add]; exact f7 k hk⟩ bb1
  have qS : nS ≤ 1048576 := by have := ES.le; omega
  have r1' := r1.kept H1.below
  clear d1 ES b1 r0 r1 bb1 f6 f7 l6 l7
  go_wp2_with fail
  refine (drawAbsIn a1 len1 cap1 z1 _ hz1 hl1 r1').mono ?_
  rintro e w2 ⟨v4, v5, d4, d5, rfl, b2⟩
  have ed4 := d4
  obtain ⟨onD, aD, _, nD, cD, _, xD, yD, rfl, _, _, _⟩ := ed4
  obtain ⟨gD, lD, hD, ED⟩ := d4.told
  have ed5 := d5
  obtain ⟨onB, aB, _, nB, cB, _, xB, yB, rfl, _, _, _⟩ := ed5
  obtain ⟨gB, lB, hB, EB⟩ := d5.told
  have qB : nB ≤ 1048576 := by have := EB.le; omega
  obtain ⟨W1, hW1⟩ : ∃ W, W = w1.alloc (.cells #[.bool onS, .slice aS nS cS, .int .i64 xS, .int .i64 yS] 27) := ⟨_, rfl⟩
  rw [← hW1] at H1 kS k6 k7 b2
  obtain ⟨XS, hXS⟩ : ∃ X, X = w1.heap.size := ⟨_, rfl⟩
  rw [← hXS] at H1
  have hXSh : Hid (XS = w1.heap.size) := hXS
  clear hXS hW1 d4 d5
  have H2 : HeldL w [(w2.heap.size + 1, [Value.bool onB, .slice aB nB cB, .int .i64 xB, .int .i64 yB]), (w2.heap.size, [Value.bool onD, .slice aD nD cD, .int .i64 xD, .int .i64 yD]), (XS, [Value.bool onS, .slice aS nS cS, .int .i64 xS, .int .i64 yS])] ((w2.alloc (.cells #[.bool onD, .slice aD nD cD, .int .i64 xD, .int .i64 yD] 27)).alloc (.cells #[.bool onB, .slice aB nB cB, .int .i64 xB, .int .i64 yB] 27)) := by
    have e1 : w2.heap.size + 1 = (w2.alloc (.cells #[.bool onD, .slice aD nD cD, .int .i64 xD, .int .i64 yD] 27)).heap.size := by simp
    rw [e1]
    exact HeldL.newL (vs := [Value.bool onB, .slice aB nB cB, .int .i64 xB, .int .i64 yB]) (HeldL.newL (vs := [Value.bool onD, .slice aD nD cD, .int .i64 xD, .int .i64 yD]) (H1.next b2))
  have bb2 : Below w2.heap.size w2 ((w2.alloc (.cells #[.bool onD, .slice aD nD cD, .int .i64 xD, .int .i64 yD] 27)).alloc (.cells #[.bool onB, .slice aB nB cB, .int .i64 xB, .int .i64 yB] 27)) := ((Below.refl _ _).alloc (Nat.le_refl _) _).alloc (by simp) _
  replace kS := (kS.next b2).next bb2
  replace k6 := (k6.next b2).next bb2
  replace k7 := (k7.next b2).next bb2
  have kB := EB.at_.next bb2
  clear EB ED b2 bb2 H1
  obtain ⟨XB, hXB⟩ : ∃ X, X = w2.heap.size + 1 := ⟨_, rfl⟩
  obtain ⟨XD, hXD⟩ : ∃ X, X = w2.heap.size := ⟨_, rfl⟩
  obtain ⟨wz, hwz⟩ : ∃ W, W = (w2.alloc (.cells #[.bool onD, .slice aD nD cD, .int .i64 xD, .int .i64 yD] 27)).alloc (.cells #[.bool onB, .slice aB nB cB, .int .i64 xB, .int .i64 yB] 27) := ⟨_, rfl⟩
  rw [← hwz] at H2 kS k6 k7 kB
  rw [← hXB, ← hXD] at H2
  obtain ⟨Lb, hLb⟩ : ∃ L, L = [(XB, [Value.bool onB, .slice aB nB cB, .int .i64 xB, .int .i64 yB]), (XD, [Value.bool onD, .slice aD nD cD, .int .i64 xD, .int .i64 yD]), (XS, [Value.bool onS, .slice aS nS cS, .int .i64 xS, .int .i64 yS])] := ⟨_, rfl⟩
  rw [← hLb] at H2
  have mS : (XS, [Value.bool onS, .slice aS nS cS, .int .i64 xS, .int .i64 yS]) ∈ Lb := by rw [hLb]; simp
  have mB : (XB, [Value.bool onB, .slice aB nB cB, .int .i64 xB, .int .i64 yB]) ∈ Lb := by rw [hLb]; simp
  have hS : HX w wz Lb wz := ⟨H2, Below.refl _ wz⟩
  have hXBh : Hid (XB = w2.heap.size + 1) := hXB
  have hXDh : Hid (XD = w2.heap.size) := hXD
  have hwh : Hid (wz = (w2.alloc (.cells #[.bool onD, .slice aD nD cD, .int .i64 xD, .int .i64 yD] 27)).alloc (.cells #[.bool onB, .slice aB nB cB, .int .i64 xB, .int .i64 yB] 27)) := hwz
  clear hXB hXD hwz hLb H2
  go_upto_region 5 with fail
  rw [← hwh.out, ← hXBh.out, ← hXDh.out, ← hXSh.out]
  clear hXBh hXDh hwh hXSh
  obtain ⟨q, hq'⟩ : ∃ q, absHas onS nS lS uS xS yS n6 z6 n7 z7 = q := ⟨_, rfl⟩
  have hq : Hid (absHas onS nS lS uS xS yS n6 z6 n7 z7 = q) := hq'
  clear hq'
  have b0 := hS.cell mS (i := 0) rfl
  have b1 := hS.cell mS (i := 1) rfl
  have b2 := hS.cell mS (i := 2) rfl
  have b3 := hS.cell mS (i := 3) rfl
  dsimp only at b0 b1 b2 b3
  go_wp2_with fail
  refine (hasI_is onS aS gS nS cS lS uS xS yS (some ⟨g6, 0, none⟩) g6 n6 c6 z6 (some ⟨g7, 0, none⟩) g7 n7 c7 z7 q _ qS (by omega) (by omega) (kS.next hS.beh) (k6.next hS.beh) (k7.next hS.beh) hq.out).mono ?_
  rintro e w' ⟨rfl, hb⟩
  replace hS := HX.next hb hS
  clear hb
  clear b0 b1 b2 b3
  have b0 := hS.cell mS (i := 0) rfl
  have b1 := hS.cell mS (i := 1) rfl
  have b2 := hS.cell mS (i := 2) rfl
  have b3 := hS.cell mS (i := 3) rfl
  dsimp only at b0 b1 b2 b3
  go_wp2_with fail
  refine (hasS_is onS aS gS nS cS lS uS xS yS (some ⟨g6, 0, none⟩) g6 n6 c6 z6 (some ⟨g7, 0, none⟩) g7 n7 c7 z7 q _ (kS.next hS.beh) (k6.next hS.beh) (k7.next hS.beh) hq.out).mono ?_
  rintro e w' ⟨rfl, hb⟩
  replace hS := HX.next hb hS
  clear hb
  clear b0 b1 b2 b3
  cases q with
  | false =>
    clear hq
    go_wp2_with (first | (go_at_call 11; refine (owOkA _).mono ?_; rintro e w' ⟨rfl, rfl⟩))
    go_ret
    exact ⟨rfl, hS.below⟩
  | true =>
    have hs0 := (hasS_iff (s := ⟨onS, nS, lS, uS, xS, yS⟩) (n1 := n6) (z := z6) (n2 := n7) (y := z7)).1 hq.out
    obtain ⟨oS, onS1, rfl, rfl, _, _⟩ := hs0
    have oSh : Hid (okT ⟨onS, nS, lS, uS, xS, yS⟩ = true) := oS
    have hsS : Hid (hasS ⟨onS, nS, lS, uS, xS, yS⟩ 4 z6 4 z7 = true) := hq.out
    clear oS onS1 hq
    have b0 := hS.cell mS (i := 0) rfl
    have b1 := hS.cell mS (i := 1) rfl
    have b2 := hS.cell mS (i := 2) rfl
    have b3 := hS.cell mS (i := 3) rfl
    dsimp only at b0 b1 b2 b3
    go_wp2_with fail
    refine (okI_is onS aS gS nS cS lS uS xS yS true _ qS (kS.next hS.beh) oSh.out).mono ?_
    rintro e w' ⟨rfl, hb⟩
    replace hS := HX.next hb hS
    clear hb
    clear b0 b1 b2 b3
    obtain ⟨oB, hoB⟩ : ∃ q, okT ⟨onB, nB, lB, hB, xB, yB⟩ = q := ⟨_, rfl⟩
    have hoBh : Hid (okT ⟨onB, nB, lB, hB, xB, yB⟩ = oB) := hoB
    clear hoB
    have b0 := hS.cell mB (i := 0) rfl
    have b1 := hS.cell mB (i := 1) rfl
    have b2 := hS.cell mB (i := 2) rfl
    have b3 := hS.cell mB (i := 3) rfl
    dsimp only at b0 b1 b2 b3
    go_wp2_with fail
    refine (okS_is onB aB gB nB cB lB hB xB yB oB _ (kB.next hS.beh) hoBh.out).mono ?_
    rintro e w' ⟨rfl, hb⟩
    replace hS := HX.next hb hS
    clear hb
    clear b0 b1 b2 b3
    cases oB with
    | false =>
      clear hoBh oSh hsS
      go_wp2_with fail
      go_ret
      exact ⟨rfl, hS.below⟩
    | true =>
      obtain ⟨onJ, nJ, lJ, hJ, xJ, yJ, eJ⟩ : ∃ on n lo hi c d, mixS joinLo joinHi ⟨onS, nS, lS, uS, xS, yS⟩ ⟨onB, nB, lB, hB, xB, yB⟩ = (⟨on, n, lo, hi, c, d⟩ : St) := ⟨_, _, _, _, _, _, rfl⟩
      have sJ : Hid (SameS (mixS joinLo joinHi ⟨onS, nS, lS, uS, xS, yS⟩ ⟨onB, nB, lB, hB, xB, yB⟩) ⟨onJ, nJ, lJ, hJ, xJ, yJ⟩) := show SameS _ _ by rw [eJ]; exact ⟨rfl, rfl, rfl, rfl, fun _ _ => ⟨rfl, rfl⟩⟩
      have qJ : nJ ≤ 1048576 := by have := mixS_le (f := joinLo) (g := joinHi) (s := ⟨onS, nS, lS, uS, xS, yS⟩) (t := ⟨onB, nB, lB, hB, xB, yB⟩); rw [eJ] at this; dsimp only at this; omega
      have hsJ : Hid (absHas onJ nJ lJ hJ xJ yJ 4 z6 4 z7 = true) := by
        have := hasS_mono hsS.out (mixS_ok join_grows oSh.out hoBh.out) (mixS_has join_grows oSh.out hoBh.out).1
        rw [eJ] at this
        exact this
      clear eJ
      have b0 := hS.cell mS (i := 0) rfl
      have b1 := hS.cell mS (i := 1) rfl
      have b2 := hS.cell mS (i := 2) rfl
      have b3 := hS.cell mS (i := 3) rfl
      dsimp only at b0 b1 b2 b3
      have d0 := hS.cell mB (i := 0) rfl
      have d1 := hS.cell mB (i := 1) rfl
      have d2 := hS.cell mB (i := 2) rfl
      have d3 := hS.cell mB (i := 3) rfl
      dsimp only at d0 d1 d2 d3
      go_wp2_with fail
      refine (joinI_is onS aS gS nS cS lS uS xS yS onB aB gB nB cB lB hB xB yB onJ nJ lJ hJ xJ yJ _ qS qB (kS.next hS.beh) (kB.next hS.beh) sJ.out).mono ?_
      rintro e w' ⟨aJ, gJ, cJ, rfl, kJ, hb⟩
      replace hS := HX.next hb hS
      clear hb
      clear b0 b1 b2 b3 d0 d1 d2 d3
      go_wp2_with fail
      refine (hasI_is onJ aJ gJ nJ cJ lJ hJ xJ yJ (some ⟨g6, 0, none⟩) g6 4 c6 z6 (some ⟨g7, 0, none⟩) g7 4 c7 z7 true _ qJ (by omega) (by omega) kJ (k6.next hS.beh) (k7.next hS.beh) hsJ.out).mono ?_
      rintro e w' ⟨rfl, hb⟩
      replace hS := HX.next hb hS
      clear hb kJ
      obtain ⟨iq, hiq⟩ : ∃ q, inT ⟨onS, nS, lS, uS, xS, yS⟩ ⟨onB, nB, lB, hB, xB, yB⟩ = q := ⟨_, rfl⟩
      have hiqh : Hid (inT ⟨onS, nS, lS, uS, xS, yS⟩ ⟨onB, nB, lB, hB, xB, yB⟩ = iq) := hiq
      clear hiq sJ hsJ
      have b0 := hS.cell mS (i := 0) rfl
      have b1 := hS.cell mS (i := 1) rfl
      have b2 := hS.cell mS (i := 2) rfl
      have b3 := hS.cell mS (i := 3) rfl
      dsimp only at b0 b1 b2 b3
      have d0 := hS.cell mB (i := 0) rfl
      have d1 := hS.cell mB (i := 1) rfl
      have d2 := hS.cell mB (i := 2) rfl
      have d3 := hS.cell mB (i := 3) rfl
      dsimp only at d0 d1 d2 d3
      go_wp2_with fail
      refine (inI_is onS aS gS nS cS lS uS xS yS onB aB gB nB cB lB hB xB yB iq _ qS qB (kS.next hS.beh) (kB.next hS.beh) hiqh.out).mono ?_
      rintro e w' ⟨rfl, hb⟩
      replace hS := HX.next hb hS
      clear hb
      clear b0 b1 b2 b3 d0 d1 d2 d3
      cases iq with
      | false =>
        clear hiqh hoBh oSh hsS
        go_wp2_with fail
        go_ret
        exact ⟨rfl, hS.below⟩
      | true =>
        have hsB : Hid (absHas onB nB lB hB xB yB 4 z6 4 z7 = true) := hasS_mono hsS.out hoBh.out hiqh.out
        clear hiqh hoBh oSh hsS
        have b0 := hS.cell mB (i := 0) rfl
        have b1 := hS.cell mB (i := 1) rfl
        have b2 := hS.cell mB (i := 2) rfl
        have b3 := hS.cell mB (i := 3) rfl
        dsimp only at b0 b1 b2 b3
        go_wp2_with fail
        refine (hasI_is onB aB gB nB cB lB hB xB yB (some ⟨g6, 0, none⟩) g6 4 c6 z6 (some ⟨g7, 0, none⟩) g7 4 c7 z7 true _ qB (by omega) (by omega) (kB.next hS.beh) (k6.next hS.beh) (k7.next hS.beh) hsB.out).mono ?_
        rintro e w' ⟨rfl, hb⟩
        replace hS := HX.next hb hS
        clear hb
        clear b0 b1 b2 b3 hsB
        go_wp2_with fail
        go_ret
        exact ⟨rfl, hS.below⟩

set_option maxRecDepth 100000 in
theorem contract (H : Type) (enc : TypeId × Value → H) (W : World) (base : Nat) (args : Array Value) (ds gs : List (DataW H)) (before : List MemPlace)
    (hval : ∀ (j : Nat) t v, Try.f4.params[j]? = some t → args[j]? = some v → Value.okWide Try.prog W .any base t v)
    (hW : DataW.Whole enc Try.prog Try.f4.params.toList Rows.fnAbsHasSpec.vars false W args.toList ds gs before) :
    Calls Try.prog 4 args W fun e W' => ∃ v, e = .returned v ∧ Rows.fnAbsHasSpec.post enc Try.prog Try.f4 false true false false W args v W' := by
  have hW' := hW
  obtain ⟨p, q, hA0, hV, rfl, hfz, hnd⟩ := hW
  have hA : DataW.TrodAll enc Try.prog W 0 (fun _ => true) true Try.f4.params.toList args.toList ds p := hA0
  rw [Try.params4] at hA hval
  obtain ⟨v0, vs0, d0, ds0, p0, q0, hargs, rfl, rfl, h0, r0'⟩ := trodAll_cons hA
  obtain ⟨v1, vs1, d1, ds1, p1, q1, rfl, rfl, rfl, h1, r1'⟩ := trodAll_cons r0'
  obtain ⟨rfl, rfl, rfl⟩ := trodAll_nil r1'
  obtain rfl : args = #[v0, v1] := by cases args; simp_all
  obtain ⟨rfl, rfl⟩ := trodVars_none hV
  obtain ⟨a0, len0, cap0, rfl⟩ := okWide_slice Try.underlying22 (hval 0 22 v0 rfl rfl)
  have k0 := h0
  have lt0 : ∀ x ∈ p0, x.block < W.heap.size := by obtain ⟨m, hm⟩ := k0; exact DataW.trod_lt m _ _ _ hm
  obtain ⟨z0, hz0, r0⟩ : ∃ z : Nat → Int, (∀ i, 0 ≤ z i ∧ z i ≤ 255) ∧ Bytes W a0 len0 cap0 z := by
    obtain ⟨fuel, hf⟩ := h0
    rcases open_ints Try.underlying22 Try.underlying5 (by kernel_rfl) hf with ⟨hcs, _⟩ | ⟨x, l, c, zs, hcs, _, hl, hm, hz, _, hcell, hwz⟩
    · simp [Value.cells] at hcs
      obtain ⟨rfl, rfl, rfl⟩ := hcs
      exact ⟨fun _ => 0, fun _ => by simp, .inl rfl⟩
    · simp [Value.cells] at hcs
      obtain ⟨rfl, rfl, rfl⟩ := hcs
      exact bytes_of hl (by simpa using hz) hcell hwz
  obtain ⟨a1, len1, cap1, rfl⟩ := okWide_slice Try.underlying22 (hval 1 22 v1 rfl rfl)
  have k1 := h1
  have lt1 : ∀ x ∈ p1, x.block < W.heap.size := by obtain ⟨m, hm⟩ := k1; exact DataW.trod_lt m _ _ _ hm
  obtain ⟨z1, hz1, r1⟩ : ∃ z : Nat → Int, (∀ i, 0 ≤ z i ∧ z i ≤ 255) ∧ Bytes W a1 len1 cap1 z := by
    obtain ⟨fuel, hf⟩ := h1
    rcases open_ints Try.underlying22 Try.underlying5 (by kernel_rfl) hf with ⟨hcs, _⟩ | ⟨x, l, c, zs, hcs, _, hl, hm, hz, _, hcell, hwz⟩
    · simp [Value.cells] at hcs
      obtain ⟨rfl, rfl, rfl⟩ := hcs
      exact ⟨fun _ => 0, fun _ => by simp, .inl rfl⟩
    · simp [Value.cells] at hcs
      obtain ⟨rfl, rfl, rfl⟩ := hcs
      exact bytes_of hl (by simpa using hz) hcell hwz
  clear hA0
  refine (walk a0 len0 cap0 z0 a1 len1 cap1 z1 W hz0 r0 hz1 r1).mono fun e W' ⟨he, bel⟩ => ?_
  subst he
  exact ⟨_, rfl, _, _, _, [], _, [], hW', trodAll_mk1 (shut_bool Try.underlying4 _), (trodAll_cons_mk (Below.trod laidOut (by kernel_rfl) (of_decide_eq_true (by kernel_rfl)) k0 bel lt0) (trodAll_cons_mk (Below.trod laidOut (by kernel_rfl) (of_decide_eq_true (by kernel_rfl)) k1 bel lt1) trodAll_mk0)), rfl, bel.frame _, fun h => by cases h⟩

set_option maxRecDepth 100000 in
theorem lifted (os : Os) (started : os.Started) (H : Type) (enc : TypeId × Value → H) :
    ReturnsInHanded {} Try.checked os 4 .any (Rows.fnAbsHasSpec.pre6 enc Try.prog Try.f4 Rows.fnAbsHasRow.domain false) (Rows.fnAbsHasSpec.post enc Try.prog Try.f4 false true false false) := by
  refine returnsInHanded_of_change (C := Try.checked) own started (by kernel_rfl) Try.func4
    (ChangeSpec.witness6 (enc := enc) (C := Try.checked) false ⟨#[], #[.slice none 0 0, .slice none 0 0], []⟩ 8 (by kernel_rfl) (by kernel_rfl) (by kernel_rfl) (by kernel_rfl)) ?_
  intro W base args ds gs before hval hW _ _
  exact contract H enc W base args ds gs before hval hW

theorem proved : Rows.FnAbsHasSaid :=
  OpenClaim.holds_of_wide 4 Try.f4 rfl rfl rfl rfl rfl rfl rfl ⟨rfl, rfl, rfl, rfl, rfl⟩ rfl rfl rfl rfl rfl (by kernel_rfl) Try.func4 (by kernel_rfl)
    (of_decide_eq_true (by kernel_rfl)) (by unfold Func.isWrapper; first | (rw [if_pos (by decide +kernel)]; kernel_rfl) | (rw [if_neg (by decide +kernel)]; exact ⟨rfl, rfl⟩))
    (fun os started H enc _ => lifted os started H enc)
#print axioms proved
end Go.Proofs.Ytiehokibfdaleaa.fnAbsHas
