/- Whatever bytes are handed in, the law FnItvMono returns true. Of more than 1048576 bytes the law itself answers true. No condition. -/
import Derived.Test.YtceanngbcolbaaaLawNot
import Derived.Test.YtceanngbcolbaaaLawM
import Derived.Test.YtceanngbcolbaaaLess
import Derived.Test.YtceanngbcolbaaaDoMono
import Derived.Test.YtceanngbcolbaaaRelIn
import Derived.Test.YtceanngbcolbaaaItvDoI
import Derived.Test.YtceanngbcolbaaaHeld
import Derived.Test.YtceanngbcolbaaaRegInv
import Derived.Test.YtceanngbcolbaaaRegNew
import Derived.Test.YtceanngbcolbaaaItvI
import Derived.Deep.RegionHeld3
import Derived.Deep.DeepCutAuto
import Derived.WalkKit
import Derived.ProofKit
import Derived.OpenShut
import Derived.ShutString
import Derived.ChangeOld
import Derived.Below
namespace Go.Proofs.Ytceanngbcolbaaa.fnItvMono
open Go.ChangeShapes Go.WideShapes Go.ChangeAt Go.RowKit
open Go.ChangeMaps (open_string shut_string)
set_option linter.unusedVariables false

theorem own : ownKnob Try.prog.godebug = none := by kernel_rfl
theorem laidOut : laidOutB Try.prog = true := by kernel_rfl

theorem itvDoI_is (op a b c d l h : Int) (t : Bool) (w : World) (hl : itvDoLo op a b c d = l) (hh : itvDoHi op a b c d = h) (ht : itvDoOk op a b c d = t) :
    Calls Try.prog 9 #[.int .i64 op, .agg #[.int .i64 a, .int .i64 b], .agg #[.int .i64 c, .int .i64 d]] w fun e w' => e = .returned (.tuple #[.agg #[.int .i64 l, .int .i64 h], .bool t]) ∧ Below w.heap.size w w' := by
  subst hl hh ht; exact itvDoI op a b c d w

set_option maxRecDepth 10000 in
set_option maxHeartbeats 40000000 in
theorem walk (a0 : Option Addr) (len0 cap0 : Nat) (z0 : Nat → Int) (a1 : Option Addr) (len1 cap1 : Nat) (z1 : Nat → Int) (w : World) (hz0 : ∀ i, 0 ≤ z0 i ∧ z0 i ≤ 255) (r0 : Bytes w a0 len0 cap0 z0) (hz1 : ∀ i, 0 ≤ z1 i ∧ z1 i ≤ 255) (r1 : Bytes w a1 len1 cap1 z1) :
    Calls Try.prog 4 #[.slice a0 len0 cap0, .slice a1 len1 cap1] w fun e w' => e = .returned (.bool true) ∧ Below w.heap.size w w' := by
  by_cases hl0 : len0 ≤ 1048576
  case neg =>
    have hi : (1048576 : Int) < (len0 : Int) := by omega
    go_enter Try.func4, Try.ntmps4
    go_wp2_with fail
    go_ret
    exact ⟨rfl, Below.refl _ _⟩
  have hi0 : ¬ (1048576 : Int) < (len0 : Int) := by omega
  by_cases hl1 : len1 ≤ 1048576
  case neg =>
    have hi : (1048576 : Int) < (len1 : Int) := by omega
    go_enter Try.func4, Try.ntmps4
    go_wp2_with fail
    go_ret
    exact ⟨rfl, Below.refl _ _⟩
  have hi1 : ¬ (1048576 : Int) < (len1 : Int) := by omega
  go_enter Try.func4, Try.ntmps4
  go_wp2_with fail
  refine (drawItvDo a0 len0 cap0 z0 _ hz0 hl0 r0).mono ?_
  rintro e w1 ⟨op, x0, x1, y0, y1, hop, hx0, hx1, hy0, hy1, rfl, b1⟩
  have H3 : HeldL w [(w1.heap.size + 1, [Value.int .i64 y0, .int .i64 y1]), (w1.heap.size, [Value.int .i64 x0, .int .i64 x1])] ((w1.alloc (.cells #[.int .i64 x0, .int .i64 x1] 24)).alloc (.cells #[.int .i64 y0, .int .i64 y1] 24)) := by
    have e : w1.heap.size + 1 = (w1.alloc (.cells #[.int .i64 x0, .int .i64 x1] 24)).heap.size := by simp
    rw [e]
    exact HeldL.new (HeldL.new ((HeldL.nil w).next b1))
  have r1' := r1.kept H3.below
  clear r0 r1
  go_wp2_with fail
  refine (drawInputs a1 len1 cap1 z1 _ hz1 hl1 r1').mono ?_
  rintro e w2 ⟨n, v, hn1, hn2, rfl, ⟨g, cap, zs, rfl, hcap, hg1, hg2, hlen, hin, hcell⟩, b2⟩
  have H5 := H3.next b2
  obtain ⟨L0, hL0⟩ : ∃ L, L = [(w1.heap.size + 1, [Value.int .i64 y0, .int .i64 y1]), (w1.heap.size, [Value.int .i64 x0, .int .i64 x1])] := ⟨_, rfl⟩
  have mA : (w1.heap.size, [Value.int .i64 x0, .int .i64 x1]) ∈ L0 := by rw [hL0]; simp
  have mB : (w1.heap.size + 1, [Value.int .i64 y0, .int .i64 y1]) ∈ L0 := by rw [hL0]; simp
  rw [← hL0] at H5
  have hL2 : HL w L0 g zs w2 := ⟨H5, hg2, hcell⟩
  have a0' := hL2.cell mA (i := 0) rfl
  have a1' := hL2.cell mA (i := 1) rfl
  dsimp only at a0' a1'
  clear r1' H3 b2 H5 hcell hg1 hg2 hcap b1 hL0
  go_wp2_with fail
  refine (itvOkS _ _ _).mono ?_
  rintro e w3 ⟨rfl, b3⟩
  have H6 := hL2.next b3
  clear a0' a1' b3 hL2
  cases oka : itvOk x0 x1
  · go_wp2_with (first | (go_at_call 12; refine (owOkT _).mono ?_; rintro e w' ⟨rfl, rfl⟩))
    go_ret
    exact ⟨rfl, H6.below⟩
  have b0' := H6.cell mB (i := 0) rfl
  have b1' := H6.cell mB (i := 1) rfl
  dsimp only at b0' b1'
  go_wp2_with fail
  refine (itvOkS _ _ _).mono ?_
  rintro e w4 ⟨rfl, b4⟩
  have H7 := H6.next b4
  clear b0' b1' b4 H6
  cases okb : itvOk y0 y1
  · go_wp2_with (first | (go_at_call 12; refine (owOkT _).mono ?_; rintro e w' ⟨rfl, rfl⟩))
    go_ret
    exact ⟨rfl, H7.below⟩
  have okaS : Hid (itvOk x0 x1 = true) := oka
  have okbS : Hid (itvOk y0 y1 = true) := okb
  obtain ⟨y, hy0'⟩ : ∃ y, zs.getD 0 0 = y := ⟨_, rfl⟩
  have hy : Hid (some (Value.int .i64 (zs.getD 0 0)) = some (.int .i64 y)) := by rw [hy0']; exact rfl
  obtain ⟨u0, hu0'⟩ : ∃ p, lessLo x0 x1 n = p := ⟨_, rfl⟩
  obtain ⟨u1, hu1'⟩ : ∃ p, lessHi x0 x1 n = p := ⟨_, rfl⟩
  obtain ⟨v0, hv0'⟩ : ∃ p, lessLo y0 y1 y = p := ⟨_, rfl⟩
  obtain ⟨v1, hv1'⟩ : ∃ p, lessHi y0 y1 y = p := ⟨_, rfl⟩
  have hu0 : Hid (lessLo x0 x1 n = u0) := hu0'
  have hu1 : Hid (lessHi x0 x1 n = u1) := hu1'
  have hv0 : Hid (lessLo y0 y1 y = v0) := hv0'
  have hv1 : Hid (lessHi y0 y1 y = v1) := hv1'
  have lu := less_in (n := n) (ok_all2 oka).2.2.2.2
  have lv := less_in (n := y) (ok_all2 okb).2.2.2.2
  rw [hu0', hu1'] at lu
  rw [hv0', hv1'] at lv
  have okm : ∀ x y p q : Int, itvOk x y = true → x ≤ p → p ≤ q → q ≤ y → itvOk p q = true := by
    intro x y p q h e1 e2 e3
    have := ok_all2 h
    simp only [itvOk, okB, Bool.and_eq_true, decide_eq_true_eq]
    omega
  have oku : Hid (itvOk u0 u1 = true) := okm _ _ _ _ oka lu.1 lu.2.1 lu.2.2
  have okv : Hid (itvOk v0 v1 = true) := okm _ _ _ _ okb lv.1 lv.2.1 lv.2.2
  have le : Hid (x0 ≤ u0 ∧ u1 ≤ x1 ∧ y0 ≤ v0 ∧ v1 ≤ y1) := ⟨lu.1, lu.2.2, lv.1, lv.2.2⟩
  clear hy0' hu0' hu1' hv0' hv1' lu lv okm oka okb hz0 hz1 hi0 hi1 hl0 hl1 hx0 hx1 hy0 hy1 hin
  have a0' := H7.cell mA (i := 0) rfl
  have a1' := H7.cell mA (i := 1) rfl
  dsimp only at a0' a1'
  go_wp2_with fail
  refine (owLess_is _ _ _ u0 u1 _ okaS.out hu0.out hu1.out).mono ?_
  rintro e w5 ⟨rfl, b5⟩
  have H8 := HL.new (t := 24) (x := .int .i64 u0) (y := .int .i64 u1) (H7.next b5)
  clear a0' a1' b5 H7
  obtain ⟨L1, hL1⟩ : ∃ L, L = (w5.heap.size, [Value.int .i64 u0, .int .i64 u1]) :: L0 := ⟨_, rfl⟩
  rw [← hL1] at H8
  have mU : (w5.heap.size, [Value.int .i64 u0, .int .i64 u1]) ∈ L1 := by rw [hL1]; simp
  have mA1 : (w1.heap.size, [Value.int .i64 x0, .int .i64 x1]) ∈ L1 := by rw [hL1]; simp [mA]
  have mB1 : (w1.heap.size + 1, [Value.int .i64 y0, .int .i64 y1]) ∈ L1 := by rw [hL1]; simp [mB]
  clear mA mB
  have mA := mA1
  have mB := mB1
  clear mA1 mB1
  clear hL1
  obtain ⟨N, hN⟩ : ∃ N, N = (w5.alloc (.cells #[.int .i64 u0, .int .i64 u1] 24)).heap.size := ⟨_, rfl⟩
  have hN1 : ∀ e ∈ L1, e.1 < N := fun e he => by rw [hN]; exact H8.1.size he
  have hgN : g < N := by rw [hN]; exact H8.2.1
  have hwN : w.heap.size ≤ N := by rw [hN]; exact H8.below.size
  have hS0 := H8.drew
  have hN0 : N ≤ (w5.alloc (.cells #[.int .i64 u0, .int .i64 u1] 24)).drew.heap.size := by rw [hN]; exact Nat.le_refl _
  clear hN H8
  go_wp2_with fail
  refine region_inv4 [(0, 54), (1, 55), (2, 56), (3, 57), (4, 58), (5, 11)]
    (fun j vx => match j with
      | 0 => Is (.agg #[.int .i64 y0, .int .i64 y1]) vx
      | 1 => Is (.slice (some ⟨g, 0, none⟩) 12 cap) vx
      | 2 => Is (.pointer (some ⟨g, 0, none⟩)) vx
      | 3 => Is (.int .i64 (y)) vx
      | 4 => Is (.agg #[.int .i64 v0, .int .i64 v1]) vx
      | _ => True)
    (fun L vals W => HL w L1 g zs W ∧ NewB N (.int .i64 v0) (.int .i64 v1) 5 6 L vals W)
    (by kernel_rfl) (by kernel_rfl) (by kernel_rfl) (by kernel_rfl) (by kernel_rfl) rfl (fun _ => ⟨hS0, NewB.start hN0⟩) ?_ ?_
  · intro i L vals W hi' hφ hSS hL hd
    have hi2 : i < 7 := hi'
    obtain ⟨hS, hB⟩ := hSS
    clear hi'
    rcases (show i = 0 ∨ i = 1 ∨ i = 2 ∨ i = 3 ∨ i = 4 ∨ i = 5 ∨ i = 6 by omega) with rfl | rfl | rfl | rfl | rfl | rfl | rfl
    · have c0 : W.cell? ⟨w1.heap.size + 1, 0, none⟩ = some (.int .i64 y0) := HL.cell hS mB (i := 0) rfl
      have c1 : W.cell? ⟨w1.heap.size + 1, 1, none⟩ = some (.int .i64 y1) := HL.cell hS mB (i := 1) rfl
      refine wpAt_of rfl rfl ?_
      simp only [frOf, Act.put]
      go_wp2_with fail
      first | exact ⟨trivial, rfl, hS, hB.pure (by decide) (by decide)⟩ | exact ⟨rfl, hS, hB.pure (by decide) (by decide)⟩
    · refine wpAt_of rfl rfl ?_
      simp only [frOf, Act.put]
      go_wp2_with fail
      first | exact ⟨trivial, rfl, hS, hB.pure (by decide) (by decide)⟩ | exact ⟨rfl, hS, hB.pure (by decide) (by decide)⟩
    · have k1 : vals 1 = .slice (some ⟨g, 0, none⟩) 12 cap := hφ 1 (hd 1 (by decide))
      refine wpAt_of rfl rfl ?_
      simp only [frOf, Act.put]
      go_wp2_with fail
      first | exact ⟨trivial, rfl, hS, hB.pure (by decide) (by decide)⟩ | exact ⟨rfl, hS, hB.pure (by decide) (by decide)⟩
    · have k2 : vals 2 = .pointer (some ⟨g, 0, none⟩) := hφ 2 (hd 2 (by decide))
      have cy : W.cell? ⟨g, 0, none⟩ = some (.int .i64 y) := (HL.cells hS 0 (by omega)).trans hy.out
      refine wpAt_of rfl rfl ?_
      simp only [frOf, Act.put]
      go_wp2_with fail
      first | exact ⟨trivial, rfl, hS, hB.pure (by decide) (by decide)⟩ | exact ⟨rfl, hS, hB.pure (by decide) (by decide)⟩
    · have k0 : vals 0 = .agg #[.int .i64 y0, .int .i64 y1] := hφ 0 (hd 0 (by decide))
      have k3 : vals 3 = .int .i64 (y) := hφ 3 (hd 3 (by decide))
      refine wpAt_of rfl rfl ?_
      simp only [frOf, Act.put]
      go_wp2_with fail
      refine (owLess_is _ _ _ v0 v1 _ okbS.out hv0.out hv1.out).mono ?_
      rintro e W' ⟨rfl, hb⟩
      go_wp2_with fail
      first | exact ⟨trivial, rfl, HL.next hb hS, hB.next hb (by decide) (by decide)⟩ | exact ⟨rfl, HL.next hb hS, hB.next hb (by decide) (by decide)⟩
    · refine wpAt_of rfl rfl ?_
      simp only [frOf, Act.put]
      go_wp2_with fail
      first | exact ⟨trivial, trivial, HL.alloc _ hS, hB.made hL (by decide)⟩ | exact ⟨trivial, HL.alloc _ hS, hB.made hL (by decide)⟩ | exact ⟨HL.alloc _ hS, hB.made hL (by decide)⟩
    · have k4 : vals 4 = .agg #[.int .i64 v0, .int .i64 v1] := hφ 4 (hd 4 (by decide))
      have hLp := hd 5 (by decide)
      obtain ⟨b, kb, hb1, hb2, hbf, ⟨u0, u1, c0, c1⟩, _⟩ := hB.2.2 hLp
      refine wpAt_none rfl rfl ?_
      simp only [frOf, Act.put]
      go_wp2_with fail
      first | exact ⟨trivial, trivial, HL.setNew hS hN1 hgN hwN hb1, hB.set hLp kb (by decide)⟩ | exact ⟨trivial, HL.setNew hS hN1 hgN hwN hb1, hB.set hLp kb (by decide)⟩ | exact ⟨HL.setNew hS hN1 hgN hwN hb1, hB.set hLp kb (by decide)⟩
  · intro L vals W hall hφ hSS
    obtain ⟨hS, hB⟩ := hSS
    have k0 : vals 0 = .agg #[.int .i64 y0, .int .i64 y1] := hφ 0 (by decide)
    have k1 : vals 1 = .slice (some ⟨g, 0, none⟩) 12 cap := hφ 1 (by decide)
    have k2 : vals 2 = .pointer (some ⟨g, 0, none⟩) := hφ 2 (by decide)
    have k3 : vals 3 = .int .i64 (y) := hφ 3 (by decide)
    have k4 : vals 4 = .agg #[.int .i64 v0, .int .i64 v1] := hφ 4 (by decide)
    obtain ⟨b, k5, hb1, hb2, hbf, _, hc⟩ := hB.2.2 (hall 5 (by decide))
    obtain ⟨hc0, hc1⟩ := hc (hall 6 (by decide))
    simp only [frOf, Act.put, List.setIfInBounds_toArray, List.set_cons_succ, List.set_cons_zero, k0, k1, k2, k3, k4, k5]
    clear k0 k1 k2 k3 k4 k5 hB hc hall hφ hS0
    have H9 := HL.withNew hS (Nat.le_trans hwN hb1) hb2 hbf hc0 hc1
    have bVS : ∃ bV, bV = b := ⟨_, rfl⟩
    obtain ⟨bV, hbV⟩ := bVS
    rw [← hbV] at H9
    obtain ⟨L2, hL2⟩ : ∃ L, L = (bV, [Value.int .i64 v0, .int .i64 v1]) :: L1 := ⟨_, rfl⟩
    rw [← hL2] at H9
    have mV : (bV, [Value.int .i64 v0, .int .i64 v1]) ∈ L2 := by rw [hL2]; simp
    have mA1 : (w1.heap.size, [Value.int .i64 x0, .int .i64 x1]) ∈ L2 := by rw [hL2]; simp [mA]
    have mB1 : (w1.heap.size + 1, [Value.int .i64 y0, .int .i64 y1]) ∈ L2 := by rw [hL2]; simp [mB]
    have mU1 : (w5.heap.size, [Value.int .i64 u0, .int .i64 u1]) ∈ L2 := by rw [hL2]; simp [mU]
    clear mA mB mU
    have mA := mA1
    have mB := mB1
    have mU := mU1
    clear mA1 mB1 mU1
    rw [← hbV]
    clear hL2 hS hb1 hb2 hbf hc0 hc1 hN1 hgN hwN hN0 hbV
    obtain ⟨sl, hsl'⟩ : ∃ l, itvDoLo op u0 u1 v0 v1 = l := ⟨_, rfl⟩
    obtain ⟨sh, hsh'⟩ : ∃ l, itvDoHi op u0 u1 v0 v1 = l := ⟨_, rfl⟩
    obtain ⟨so, hso'⟩ : ∃ l, itvDoOk op u0 u1 v0 v1 = l := ⟨_, rfl⟩
    obtain ⟨tl, htl'⟩ : ∃ l, itvDoLo op x0 x1 y0 y1 = l := ⟨_, rfl⟩
    obtain ⟨th, hth'⟩ : ∃ l, itvDoHi op x0 x1 y0 y1 = l := ⟨_, rfl⟩
    obtain ⟨tq, hto'⟩ : ∃ l, itvDoOk op x0 x1 y0 y1 = l := ⟨_, rfl⟩
    have hdo : Hid (so = true → tq = true ∧ itvIn sl sh tl th = true) := by
      intro e
      have := do_mono okaS.out okbS.out oku.out okv.out le.out.1 le.out.2.1 le.out.2.2.1 le.out.2.2.2 (hso'.trans e)
      rw [hsl', hsh', htl', hth', hto'] at this
      exact this
    have hsl : Hid (itvDoLo op u0 u1 v0 v1 = sl) := hsl'
    have hsh : Hid (itvDoHi op u0 u1 v0 v1 = sh) := hsh'
    have hso : Hid (itvDoOk op u0 u1 v0 v1 = so) := hso'
    have htl : Hid (itvDoLo op x0 x1 y0 y1 = tl) := htl'
    have hth : Hid (itvDoHi op x0 x1 y0 y1 = th) := hth'
    have hto : Hid (itvDoOk op x0 x1 y0 y1 = tq) := hto'
    clear hsl' hsh' hso' htl' hth' hto'
    have u0' := H9.cell mU (i := 0) rfl
    have u1' := H9.cell mU (i := 1) rfl
    have v0' := H9.cell mV (i := 0) rfl
    have v1' := H9.cell mV (i := 1) rfl
    dsimp only at u0' u1' v0' v1'
    go_wp2_with fail
    refine (itvDoI_is _ _ _ _ _ sl sh so _ hsl.out hsh.out hso.out).mono ?_
    rintro e w6 ⟨rfl, b6⟩
    have HA := HL.new (t := 24) (x := .int .i64 sl) (y := .int .i64 sh) (H9.next b6)
    clear u0' u1' v0' v1' b6 H9
    obtain ⟨L3, hL3⟩ : ∃ L, L = (w6.heap.size, [Value.int .i64 sl, .int .i64 sh]) :: L2 := ⟨_, rfl⟩
    rw [← hL3] at HA
    have mX : (w6.heap.size, [Value.int .i64 sl, .int .i64 sh]) ∈ L3 := by rw [hL3]; simp
    have mA1 : (w1.heap.size, [Value.int .i64 x0, .int .i64 x1]) ∈ L3 := by rw [hL3]; simp [mA]
    have mB1 : (w1.heap.size + 1, [Value.int .i64 y0, .int .i64 y1]) ∈ L3 := by rw [hL3]; simp [mB]
    have mU1 : (w5.heap.size, [Value.int .i64 u0, .int .i64 u1]) ∈ L3 := by rw [hL3]; simp [mU]
    have mV1 : (bV, [Value.int .i64 v0, .int .i64 v1]) ∈ L3 := by rw [hL3]; simp [mV]
    clear mA mB mU mV
    have mA := mA1
    have mB := mB1
    have mU := mU1
    have mV := mV1
    clear mA1 mB1 mU1 mV1
    clear hL3
    have a0' := HA.cell mA (i := 0) rfl
    have a1' := HA.cell mA (i := 1) rfl
    have b0' := HA.cell mB (i := 0) rfl
    have b1' := HA.cell mB (i := 1) rfl
    dsimp only at a0' a1' b0' b1'
    go_wp2_with fail
    refine (itvDoI_is _ _ _ _ _ tl th tq _ htl.out hth.out hto.out).mono ?_
    rintro e w7 ⟨rfl, b7⟩
    have HB := HL.new (t := 24) (x := .int .i64 tl) (y := .int .i64 th) (HA.next b7)
    clear a0' a1' b0' b1' b7 HA
    obtain ⟨Lb, hLb⟩ : ∃ L, L = (w7.heap.size, [Value.int .i64 tl, .int .i64 th]) :: L3 := ⟨_, rfl⟩
    rw [← hLb] at HB
    have mY : (w7.heap.size, [Value.int .i64 tl, .int .i64 th]) ∈ Lb := by rw [hLb]; simp
    have mA1 : (w1.heap.size, [Value.int .i64 x0, .int .i64 x1]) ∈ Lb := by rw [hLb]; simp [mA]
    have mB1 : (w1.heap.size + 1, [Value.int .i64 y0, .int .i64 y1]) ∈ Lb := by rw [hLb]; simp [mB]
    have mU1 : (w5.heap.size, [Value.int .i64 u0, .int .i64 u1]) ∈ Lb := by rw [hLb]; simp [mU]
    have mV1 : (bV, [Value.int .i64 v0, .int .i64 v1]) ∈ Lb := by rw [hLb]; simp [mV]
    have mX1 : (w6.heap.size, [Value.int .i64 sl, .int .i64 sh]) ∈ Lb := by rw [hLb]; simp [mX]
    clear mA mB mU mV mX
    have mA := mA1
    have mB := mB1
    have mU := mU1
    have mV := mV1
    have mX := mX1
    clear mA1 mB1 mU1 mV1 mX1
    clear hLb hsl hsh hso htl hth hto
    go_upto_region 11 with fail
    go_cut [83] (fun c W => c = .bool false ∧ HL w Lb g zs W)
    case first =>
      cases so
      · go_wp2_with fail
        go_meet
        exact ⟨rfl, HB⟩
      · obtain ⟨rfl, hin0⟩ := hdo.out rfl
        have hin1 : Hid (itvIn sl sh tl th = true) := hin0
        clear hin0
        have p0' := HB.cell mX (i := 0) rfl
        have p1' := HB.cell mX (i := 1) rfl
        have q0' := HB.cell mY (i := 0) rfl
        have q1' := HB.cell mY (i := 1) rfl
        dsimp only at p0' p1' q0' q1'
        go_wp2_with fail
        refine (inI_is _ _ _ _ true _ hin1.out).mono ?_
        rintro e wD ⟨rfl, bD⟩
        have HD := HB.next bD
        go_wp2_with fail
        go_meet
        exact ⟨rfl, HD⟩
    case rest =>
      obtain ⟨rfl, HC⟩ := hcut
      clear HB hdo
      go_wp2_with fail
      go_loopw [16] (fun i W => ∃ k : Nat, 1 ≤ k ∧ k ≤ 5 ∧ i = .int .i64 k ∧ HL w Lb g zs W) (fun i _ => 5 - (intOf i).toNat)
      case atStart => exact ⟨1, by omega, by omega, rfl, HC⟩
      case round =>
        clear HC
        obtain ⟨k, hk1, hk, rfl, hS⟩ := hrel
        by_cases hlt : k < 5
        · have t3 : (k : Int) ≤ 4 := by omega
          have t4 : (0 : Int) ≤ (k : Int) := by omega
          obtain ⟨pl, ph, ql, qh, po, hr0⟩ : ∃ p q r s t, itvRel (k : Int) u0 u1 v0 v1 = ⟨p, q, r, s, t⟩ := ⟨_, _, _, _, _, two_is _⟩
          obtain ⟨rl, rh, sl', sh', ro, hq0⟩ : ∃ p q r s t, itvRel (k : Int) x0 x1 y0 y1 = ⟨p, q, r, s, t⟩ := ⟨_, _, _, _, _, two_is _⟩
          obtain ⟨nl, nh, ml, mh, no, hm0⟩ : ∃ p q r s t, itvNot (k : Int) u0 u1 v0 v1 = ⟨p, q, r, s, t⟩ := ⟨_, _, _, _, _, two_is _⟩
          obtain ⟨il, ih, jl, jh, jo, hn0⟩ : ∃ p q r s t, itvNot (k : Int) x0 x1 y0 y1 = ⟨p, q, r, s, t⟩ := ⟨_, _, _, _, _, two_is _⟩
          have fR : Hid (po = true → ro = true ∧ itvIn pl ph rl rh = true ∧ itvIn ql qh sl' sh' = true) := by
            intro e
            have := rel_mono (rel := (k : Int)) okaS.out okbS.out oku.out okv.out le.out.1 le.out.2.1 le.out.2.2.1 le.out.2.2.2 (by rw [hr0]; exact e)
            rw [hr0, hq0] at this
            exact this
          have fN : Hid (no = true → jo = true ∧ itvIn nl nh il ih = true ∧ itvIn ml mh jl jh = true) := by
            intro e
            have := not_mono (rel := (k : Int)) okaS.out okbS.out oku.out okv.out le.out.1 le.out.2.1 le.out.2.2.1 le.out.2.2.2 (by rw [hm0]; exact e)
            rw [hm0, hn0] at this
            exact this
          have hr : Hid (itvRel (k : Int) u0 u1 v0 v1 = ⟨pl, ph, ql, qh, po⟩) := hr0
          have hq : Hid (itvRel (k : Int) x0 x1 y0 y1 = ⟨rl, rh, sl', sh', ro⟩) := hq0
          have hm : Hid (itvNot (k : Int) u0 u1 v0 v1 = ⟨nl, nh, ml, mh, no⟩) := hm0
          have hn : Hid (itvNot (k : Int) x0 x1 y0 y1 = ⟨il, ih, jl, jh, jo⟩) := hn0
          clear hr0 hq0 hm0 hn0
          have u0' := hS.cell mU (i := 0) rfl
          have u1' := hS.cell mU (i := 1) rfl
          have v0' := hS.cell mV (i := 0) rfl
          have v1' := hS.cell mV (i := 1) rfl
          dsimp only at u0' u1' v0' v1'
          go_wp2_with fail
          refine (itvRelI_is _ _ _ _ _ pl ph ql qh po _ hr.out).mono ?_
          rintro e w8 ⟨rfl, b8⟩
          have hS8 := hS.next b8
          have hP : ∀ e ∈ Lb, e.1 < w8.heap.size := fun e he => hS8.1.size he
          have hgP : g < w8.heap.size := hS8.2.1
          have hwP : w.heap.size ≤ w8.heap.size := hS8.below.size
          have R1 := HL.new2 (t := 24) (x := .int .i64 pl) (y := .int .i64 ph) (p := .int .i64 ql) (q := .int .i64 qh) hS8
          clear u0' u1' v0' v1' b8 hS hS8
          have a0' := R1.cell (List.mem_cons_of_mem _ (List.mem_cons_of_mem _ mA)) (i := 0) rfl
          have a1' := R1.cell (List.mem_cons_of_mem _ (List.mem_cons_of_mem _ mA)) (i := 1) rfl
          have b0' := R1.cell (List.mem_cons_of_mem _ (List.mem_cons_of_mem _ mB)) (i := 0) rfl
          have b1' := R1.cell (List.mem_cons_of_mem _ (List.mem_cons_of_mem _ mB)) (i := 1) rfl
          dsimp only at a0' a1' b0' b1'
          go_wp2_with fail
          refine (itvRelI_is _ _ _ _ _ rl rh sl' sh' ro _ hq.out).mono ?_
          rintro e w9 ⟨rfl, b9⟩
          have hPQ : w8.heap.size + 2 ≤ w9.heap.size := by have := b9.size; simp at this; omega
          have R2 := HL.new2 (t := 24) (x := .int .i64 rl) (y := .int .i64 rh) (p := .int .i64 sl') (q := .int .i64 sh') (R1.next b9)
          clear a0' a1' b0' b1' b9 R1
          obtain ⟨P, hPe⟩ : ∃ P, P = w8.heap.size := ⟨_, rfl⟩
          obtain ⟨Q, hQe⟩ : ∃ Q, Q = w9.heap.size := ⟨_, rfl⟩
          rw [← hPe, ← hQe] at R2
          rw [← hPe] at hP hgP hwP
          rw [← hPe, ← hQe] at hPQ
          have hPS : Hid (P = w8.heap.size) := hPe
          have hQS : Hid (Q = w9.heap.size) := hQe
          clear hPe hQe
          obtain ⟨L5, hL5⟩ : ∃ L, L = (Q + 1, [Value.int .i64 sl', .int .i64 sh']) :: (Q, [Value.int .i64 rl, .int .i64 rh]) :: (P + 1, [Value.int .i64 ql, .int .i64 qh]) :: (P, [Value.int .i64 pl, .int .i64 ph]) :: Lb := ⟨_, rfl⟩
          rw [← hL5] at R2
          have hL5S : Hid (L5 = (Q + 1, [Value.int .i64 sl', .int .i64 sh']) :: (Q, [Value.int .i64 rl, .int .i64 rh]) :: (P + 1, [Value.int .i64 ql, .int .i64 qh]) :: (P, [Value.int .i64 pl, .int .i64 ph]) :: Lb) := hL5
          have mP : (P, [Value.int .i64 pl, .int .i64 ph]) ∈ L5 := by rw [hL5]; simp
          have mP1 : (P + 1, [Value.int .i64 ql, .int .i64 qh]) ∈ L5 := by rw [hL5]; simp
          have mQ : (Q, [Value.int .i64 rl, .int .i64 rh]) ∈ L5 := by rw [hL5]; simp
          have mQ1 : (Q + 1, [Value.int .i64 sl', .int .i64 sh']) ∈ L5 := by rw [hL5]; simp
          have up : ∀ e, e ∈ Lb → e ∈ L5 := fun e he => by rw [hL5]; simp [he]
          clear hL5
          go_upto_region 18 with fail
          rw [← hPS.out, ← hQS.out]
          clear hPS hQS
          go_cut [120] (fun c W => c = .bool false ∧ HL w L5 g zs W)
          case first =>
            cases po
            · go_wp2_with fail
              go_meet
              exact ⟨rfl, R2⟩
            · obtain ⟨rfl, i1, i2⟩ := fR.out rfl
              have j1 : Hid (itvIn pl ph rl rh = true) := i1
              have j2 : Hid (itvIn ql qh sl' sh' = true) := i2
              clear i1 i2
              have p0' := R2.cell mP (i := 0) rfl
              have p1' := R2.cell mP (i := 1) rfl
              have q0' := R2.cell mQ (i := 0) rfl
              have q1' := R2.cell mQ (i := 1) rfl
              dsimp only at p0' p1' q0' q1'
              go_wp2_with fail
              refine (inI_is _ _ _ _ true _ j1.out).mono ?_
              rintro e wD ⟨rfl, bD⟩
              have HD := R2.next bD
              clear R2 bD p0' p1' q0' q1'
              have p0' := HD.cell mP1 (i := 0) rfl
              have p1' := HD.cell mP1 (i := 1) rfl
              have q0' := HD.cell mQ1 (i := 0) rfl
              have q1' := HD.cell mQ1 (i := 1) rfl
              dsimp only at p0' p1' q0' q1'
              go_wp2_with fail
              refine (inI_is _ _ _ _ true _ j2.out).mono ?_
              rintro e wE ⟨rfl, bE⟩
              have HE := HD.next bE
              clear HD bE p0' p1' q0' q1'
              go_wp2_with fail
              go_meet
              exact ⟨rfl, HE⟩
          case rest =>
            obtain ⟨rfl, R3⟩ := hcut
            clear R2 fR
            obtain ⟨L6, hL6⟩ : ∃ L, L = (P + 1, [Value.int .i64 ml, .int .i64 mh]) :: (P, [Value.int .i64 nl, .int .i64 nh]) :: (Q + 1, [Value.int .i64 sl', .int .i64 sh']) :: (Q, [Value.int .i64 rl, .int .i64 rh]) :: Lb := ⟨_, rfl⟩
            obtain ⟨L7, hL7⟩ : ∃ L, L = (Q + 1, [Value.int .i64 jl, .int .i64 jh]) :: (Q, [Value.int .i64 il, .int .i64 ih]) :: (P + 1, [Value.int .i64 ml, .int .i64 mh]) :: (P, [Value.int .i64 nl, .int .i64 nh]) :: Lb := ⟨_, rfl⟩
            have hL6S : Hid (L6 = (P + 1, [Value.int .i64 ml, .int .i64 mh]) :: (P, [Value.int .i64 nl, .int .i64 nh]) :: (Q + 1, [Value.int .i64 sl', .int .i64 sh']) :: (Q, [Value.int .i64 rl, .int .i64 rh]) :: Lb) := hL6
            have hL7S : Hid (L7 = (Q + 1, [Value.int .i64 jl, .int .i64 jh]) :: (Q, [Value.int .i64 il, .int .i64 ih]) :: (P + 1, [Value.int .i64 ml, .int .i64 mh]) :: (P, [Value.int .i64 nl, .int .i64 nh]) :: Lb) := hL7
            have up6 : ∀ e, e ∈ Lb → e ∈ L6 := fun e he => by rw [hL6]; simp [he]
            have up7 : ∀ e, e ∈ Lb → e ∈ L7 := fun e he => by rw [hL7]; simp [he]
            have m6 : (Q, [Value.int .i64 rl, .int .i64 rh]) ∈ L6 := by rw [hL6]; simp
            have m61 : (Q + 1, [Value.int .i64 sl', .int .i64 sh']) ∈ L6 := by rw [hL6]; simp
            have n7 : (P, [Value.int .i64 nl, .int .i64 nh]) ∈ L7 := by rw [hL7]; simp
            have n71 : (P + 1, [Value.int .i64 ml, .int .i64 mh]) ∈ L7 := by rw [hL7]; simp
            have k7 : (Q, [Value.int .i64 il, .int .i64 ih]) ∈ L7 := by rw [hL7]; simp
            have k71 : (Q + 1, [Value.int .i64 jl, .int .i64 jh]) ∈ L7 := by rw [hL7]; simp
            clear hL6 hL7
            have ne6 : ∀ e ∈ (Q + 1, [Value.int .i64 sl', .int .i64 sh']) :: (Q, [Value.int .i64 rl, .int .i64 rh]) :: Lb, e.1 ≠ P ∧ e.1 ≠ P + 1 := by
              intro e he
              rcases List.mem_cons.1 he with rfl | he
              · dsimp only; omega
              rcases List.mem_cons.1 he with rfl | he
              · dsimp only; omega
              · have := hP e he; omega
            have ne7 : ∀ e ∈ (P + 1, [Value.int .i64 ml, .int .i64 mh]) :: (P, [Value.int .i64 nl, .int .i64 nh]) :: Lb, e.1 ≠ Q ∧ e.1 ≠ Q + 1 := by
              intro e he
              rcases List.mem_cons.1 he with rfl | he
              · dsimp only; omega
              rcases List.mem_cons.1 he with rfl | he
              · dsimp only; omega
              · have := hP e he; omega
            have neS : Hid ((∀ e ∈ (Q + 1, [Value.int .i64 sl', .int .i64 sh']) :: (Q, [Value.int .i64 rl, .int .i64 rh]) :: Lb, e.1 ≠ P ∧ e.1 ≠ P + 1) ∧ (∀ e ∈ (P + 1, [Value.int .i64 ml, .int .i64 mh]) :: (P, [Value.int .i64 nl, .int .i64 nh]) :: Lb, e.1 ≠ Q ∧ e.1 ≠ Q + 1)) := ⟨ne6, ne7⟩
            clear ne6 ne7
            go_upto_region 20 with fail
            go_cut [19] (fun c W => c = .bool no ∧ HL w L6 g zs W)
            case first =>
              have u0' := R3.cell (up _ mU) (i := 0) rfl
              have u1' := R3.cell (up _ mU) (i := 1) rfl
              have v0' := R3.cell (up _ mV) (i := 0) rfl
              have v1' := R3.cell (up _ mV) (i := 1) rfl
              dsimp only at u0' u1' v0' v1'
              go_wp2_with fail
              refine (itvNotI_is _ _ _ _ _ nl nh ml mh no _ hm.out).mono ?_
              rintro e wD ⟨rfl, bD⟩
              have R4 := R3.next bD
              clear R3 bD u0' u1' v0' v1'
              have fa : ∀ i, wD.frozen? ⟨P, i, none⟩ = false := R4.1.free _ mP
              have fb : ∀ i, wD.frozen? ⟨P + 1, i, none⟩ = false := R4.1.free _ mP1
              have p0' := R4.cell mP (i := 0) rfl
              have p1' := R4.cell mP (i := 1) rfl
              have q0' := R4.cell mP1 (i := 0) rfl
              have q1' := R4.cell mP1 (i := 1) rfl
              dsimp only at p0' p1' q0' q1'
              have R5 : HL w L6 g zs ((((wD.setCell ⟨P, 0, none⟩ (.int .i64 nl)).setCell ⟨P, 1, none⟩ (.int .i64 nh)).setCell ⟨P + 1, 0, none⟩ (.int .i64 ml)).setCell ⟨P + 1, 1, none⟩ (.int .i64 mh)) := by
                rw [hL6S.out]
                refine HL.put2 (a := .int .i64 ql) (b := .int .i64 qh) (c := .int .i64 pl) (d := .int .i64 ph) hwP hgP neS.out.1 (R4.sub ?_)
                rw [hL5S.out]
                intro e he
                simp only [List.mem_cons] at he ⊢
                rcases he with he | he | he | he | he <;> simp [he]
              clear R4
              go_wp2_with fail
              go_meet
              exact ⟨rfl, R5⟩
            case rest =>
              obtain ⟨rfl, R5⟩ := hcut
              clear R3
              go_upto_region 21 with fail
              go_cut [22] (fun c W => c = .bool jo ∧ HL w L7 g zs W)
              case first =>
                have u0' := R5.cell (up6 _ mA) (i := 0) rfl
                have u1' := R5.cell (up6 _ mA) (i := 1) rfl
                have v0' := R5.cell (up6 _ mB) (i := 0) rfl
                have v1' := R5.cell (up6 _ mB) (i := 1) rfl
                dsimp only at u0' u1' v0' v1'
                go_wp2_with fail
                refine (itvNotI_is _ _ _ _ _ il ih jl jh jo _ hn.out).mono ?_
                rintro e wD ⟨rfl, bD⟩
                have R6 := R5.next bD
                clear R5 bD u0' u1' v0' v1'
                have fa : ∀ i, wD.frozen? ⟨Q, i, none⟩ = false := R6.1.free _ m6
                have fb : ∀ i, wD.frozen? ⟨Q + 1, i, none⟩ = false := R6.1.free _ m61
                have p0' := R6.cell m6 (i := 0) rfl
                have p1' := R6.cell m6 (i := 1) rfl
                have q0' := R6.cell m61 (i := 0) rfl
                have q1' := R6.cell m61 (i := 1) rfl
                dsimp only at p0' p1' q0' q1'
                have R7 : HL w L7 g zs ((((wD.setCell ⟨Q, 0, none⟩ (.int .i64 il)).setCell ⟨Q, 1, none⟩ (.int .i64 ih)).setCell ⟨Q + 1, 0, none⟩ (.int .i64 jl)).setCell ⟨Q + 1, 1, none⟩ (.int .i64 jh)) := by
                  rw [hL7S.out]
                  refine HL.put2 (a := .int .i64 sl') (b := .int .i64 sh') (c := .int .i64 rl) (d := .int .i64 rh) (by omega) (by omega) neS.out.2 (R6.sub ?_)
                  rw [hL6S.out]
                  intro e he
                  simp only [List.mem_cons] at he ⊢
                  rcases he with he | he | he | he | he <;> simp [he]
                clear R6
                go_wp2_with fail
                go_meet
                exact ⟨rfl, R7⟩
              case rest =>
                obtain ⟨rfl, R7⟩ := hcut
                clear R5
                go_upto_region 22 with fail
                go_cut [153] (fun c W => c = .bool false ∧ HL w Lb g zs W)
                case first =>
                  cases no
                  · go_wp2_with fail
                    go_meet
                    exact ⟨rfl, R7.sub up7⟩
                  · obtain ⟨rfl, i1, i2⟩ := fN.out rfl
                    have j1 : Hid (itvIn nl nh il ih = true) := i1
                    have j2 : Hid (itvIn ml mh jl jh = true) := i2
                    clear i1 i2
                    have p0' := R7.cell n7 (i := 0) rfl
                    have p1' := R7.cell n7 (i := 1) rfl
                    have q0' := R7.cell k7 (i := 0) rfl
                    have q1' := R7.cell k7 (i := 1) rfl
                    dsimp only at p0' p1' q0' q1'
                    go_wp2_with fail
                    refine (inI_is _ _ _ _ true _ j1.out).mono ?_
                    rintro e wD ⟨rfl, bD⟩
                    have HD := R7.next bD
                    clear R7 bD p0' p1' q0' q1'
                    have p0' := HD.cell n71 (i := 0) rfl
                    have p1' := HD.cell n71 (i := 1) rfl
                    have q0' := HD.cell k71 (i := 0) rfl
                    have q1' := HD.cell k71 (i := 1) rfl
                    dsimp only at p0' p1' q0' q1'
                    go_wp2_with fail
                    refine (inI_is _ _ _ _ true _ j2.out).mono ?_
                    rintro e wE ⟨rfl, bE⟩
                    have HE := HD.next bE
                    clear HD bE p0' p1' q0' q1'
                    go_wp2_with fail
                    go_meet
                    exact ⟨rfl, HE.sub up7⟩
                case rest =>
                  obtain ⟨rfl, R8⟩ := hcut
                  clear R7
                  go_wp2_with fail
                  go_roundw
                  case rel => exact ⟨k + 1, by omega, by omega, by go_num, R8⟩
                  case measure => simp [intOf]; omega
        · obtain rfl : k = 5 := by omega
          go_wp2_with (first | (go_at_call 12; refine (owOkT _).mono ?_; rintro e w' ⟨rfl, rfl⟩))
          go_ret
          exact ⟨rfl, hS.below⟩

theorem contract (H : Type) (enc : TypeId × Value → H) (W : World) (base : Nat) (args : Array Value) (ds gs : List (DataW H)) (before : List MemPlace)
    (hval : ∀ (j : Nat) t v, Try.f4.params[j]? = some t → args[j]? = some v → Value.okWide Try.prog W .any base t v)
    (hW : DataW.Whole enc Try.prog Try.f4.params.toList Rows.fnItvMonoSpec.vars false W args.toList ds gs before) :
    Calls Try.prog 4 args W fun e W' => ∃ v, e = .returned v ∧ Rows.fnItvMonoSpec.post enc Try.prog Try.f4 false true false false W args v W' := by
  have hW' := hW
  obtain ⟨p, q, hA0, hV, rfl, hfz, hnd⟩ := hW
  have hA : DataW.TrodAll enc Try.prog W 0 (fun _ => true) true Try.f4.params.toList args.toList ds p := hA0
  rw [Try.params4] at hA hval
  obtain ⟨v0, vs0, d0, ds0, p0, q0, hargs, rfl, rfl, h0, r0'⟩ := trodAll_cons hA
  obtain ⟨v1, vs1, d1, ds1, p1, q1, rfl, rfl, rfl, h1, r1'⟩ := trodAll_cons r0'
  obtain ⟨rfl, rfl, rfl⟩ := trodAll_nil r1'
  obtain rfl : args = #[v0, v1] := by cases args; simp_all
  obtain ⟨rfl, rfl⟩ := trodVars_none hV
  obtain ⟨a0, len0, cap0, rfl⟩ := okWide_slice Try.underlying22 (hval 0 22 v0 rfl rfl)
  have k0 := h0
  have lt0 : ∀ x ∈ p0, x.block < W.heap.size := by obtain ⟨m, hm⟩ := k0; exact DataW.trod_lt m _ _ _ hm
  obtain ⟨z0, hz0, r0⟩ : ∃ z : Nat → Int, (∀ i, 0 ≤ z i ∧ z i ≤ 255) ∧ Bytes W a0 len0 cap0 z := by
    obtain ⟨fuel, hf⟩ := h0
    rcases open_ints Try.underlying22 Try.underlying5 (by kernel_rfl) hf with ⟨hcs, _⟩ | ⟨x, l, c, zs, hcs, _, hl, hm, hz, _, hcell, hwz⟩
    · simp [Value.cells] at hcs
      obtain ⟨rfl, rfl, rfl⟩ := hcs
      exact ⟨fun _ => 0, fun _ => by simp, .inl rfl⟩
    · simp [Value.cells] at hcs
      obtain ⟨rfl, rfl, rfl⟩ := hcs
      exact bytes_of hl (by simpa using hz) hcell hwz
  obtain ⟨a1, len1, cap1, rfl⟩ := okWide_slice Try.underlying22 (hval 1 22 v1 rfl rfl)
  have k1 := h1
  have lt1 : ∀ x ∈ p1, x.block < W.heap.size := by obtain ⟨m, hm⟩ := k1; exact DataW.trod_lt m _ _ _ hm
  obtain ⟨z1, hz1, r1⟩ : ∃ z : Nat → Int, (∀ i, 0 ≤ z i ∧ z i ≤ 255) ∧ Bytes W a1 len1 cap1 z := by
    obtain ⟨fuel, hf⟩ := h1
    rcases open_ints Try.underlying22 Try.underlying5 (by kernel_rfl) hf with ⟨hcs, _⟩ | ⟨x, l, c, zs, hcs, _, hl, hm, hz, _, hcell, hwz⟩
    · simp [Value.cells] at hcs
      obtain ⟨rfl, rfl, rfl⟩ := hcs
      exact ⟨fun _ => 0, fun _ => by simp, .inl rfl⟩
    · simp [Value.cells] at hcs
      obtain ⟨rfl, rfl, rfl⟩ := hcs
      exact bytes_of hl (by simpa using hz) hcell hwz
  clear hA0
  refine (walk a0 len0 cap0 z0 a1 len1 cap1 z1 W hz0 r0 hz1 r1).mono fun e W' ⟨he, bel⟩ => ?_
  subst he
  exact ⟨_, rfl, _, _, _, [], _, [], hW', trodAll_mk1 (shut_bool Try.underlying4 _), (trodAll_cons_mk (Below.trod laidOut (by kernel_rfl) (of_decide_eq_true (by kernel_rfl)) k0 bel lt0) (trodAll_cons_mk (Below.trod laidOut (by kernel_rfl) (of_decide_eq_true (by kernel_rfl)) k1 bel lt1) trodAll_mk0)), rfl, bel.frame _, fun h => by cases h⟩

set_option maxRecDepth 100000 in
theorem lifted (os : Os) (started : os.Started) (H : Type) (enc : TypeId × Value → H) :
    ReturnsInHanded {} Try.checked os 4 .any (Rows.fnItvMonoSpec.pre6 enc Try.prog Try.f4 Rows.fnItvMonoRow.domain false) (Rows.fnItvMonoSpec.post enc Try.prog Try.f4 false true false false) := by
  refine returnsInHanded_of_change (C := Try.checked) own started (by kernel_rfl) Try.func4
    (ChangeSpec.witness6 (enc := enc) (C := Try.checked) false ⟨#[], #[.slice none 0 0, .slice none 0 0], []⟩ 8 (by kernel_rfl) (by kernel_rfl) (by kernel_rfl) (by kernel_rfl)) ?_
  intro W base args ds gs before hval hW _ _
  exact contract H enc W base args ds gs before hval hW

theorem proved : Rows.FnItvMonoSaid :=
  OpenClaim.holds_of_wide 4 Try.f4 rfl rfl rfl rfl rfl rfl rfl ⟨rfl, rfl, rfl, rfl, rfl⟩ rfl rfl rfl rfl rfl (by kernel_rfl) Try.func4 (by kernel_rfl)
    (of_decide_eq_true (by kernel_rfl)) (by unfold Func.isWrapper; first | (rw [if_pos (by decide +kernel)]; kernel_rfl) | (rw [if_neg (by decide +kernel)]; exact ⟨rfl, rfl⟩))
    (fun os started H enc _ => lifted os started H enc)
#print axioms proved
end Go.Proofs.Ytceanngbcolbaaa.fnItvMono
