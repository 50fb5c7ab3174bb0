/- Whatever bytes are handed in, the law FnItvNot returns true. Of more than 1048576 bytes the law itself answers true. No condition. -/
import Derived.Test.YtceanngbcolbaaaLawNot
import Derived.Test.YtceanngbcolbaaaRelIn
import Derived.Test.YtceanngbcolbaaaHeld
import Derived.Test.YtceanngbcolbaaaRegInv
import Derived.Test.YtceanngbcolbaaaItvI
import Derived.Deep.RegionHeld3
import Derived.Deep.DeepCutAuto
import Derived.WalkKit
import Derived.ProofKit
import Derived.OpenShut
import Derived.ShutString
import Derived.ChangeOld
import Derived.Below
namespace Go.Proofs.Ytceanngbcolbaaa.fnItvNot
open Go.ChangeShapes Go.WideShapes Go.ChangeAt Go.RowKit
open Go.ChangeMaps (open_string shut_string)
set_option linter.unusedVariables false

theorem own : ownKnob Try.prog.godebug = none := by kernel_rfl
theorem laidOut : laidOutB Try.prog = true := by kernel_rfl


set_option maxRecDepth 10000 in
set_option maxHeartbeats 40000000 in
theorem walk (a0 : Option Addr) (len0 cap0 : Nat) (z0 : Nat → Int) (a1 : Option Addr) (len1 cap1 : Nat) (z1 : Nat → Int) (w : World) (hz0 : ∀ i, 0 ≤ z0 i ∧ z0 i ≤ 255) (r0 : Bytes w a0 len0 cap0 z0) (hz1 : ∀ i, 0 ≤ z1 i ∧ z1 i ≤ 255) (r1 : Bytes w a1 len1 cap1 z1) :
    Calls Try.prog 6 #[.slice a0 len0 cap0, .slice a1 len1 cap1] w fun e w' => e = .returned (.bool true) ∧ Below w.heap.size w w' := by
  by_cases hl0 : len0 ≤ 1048576
  case neg =>
    have hi : (1048576 : Int) < (len0 : Int) := by omega
    go_enter Try.func6, Try.ntmps6
    go_wp2_with fail
    go_ret
    exact ⟨rfl, Below.refl _ _⟩
  have hi0 : ¬ (1048576 : Int) < (len0 : Int) := by omega
  by_cases hl1 : len1 ≤ 1048576
  case neg =>
    have hi : (1048576 : Int) < (len1 : Int) := by omega
    go_enter Try.func6, Try.ntmps6
    go_wp2_with fail
    go_ret
    exact ⟨rfl, Below.refl _ _⟩
  have hi1 : ¬ (1048576 : Int) < (len1 : Int) := by omega
  go_enter Try.func6, Try.ntmps6
  go_wp2_with fail
  refine (drawItvNot a0 len0 cap0 z0 _ hz0 hl0 r0).mono ?_
  rintro e w1 ⟨op, x0, x1, y0, y1, hop, hx0, hx1, hy0, hy1, rfl, b1⟩
  have H3 : HeldL w [(w1.heap.size + 1, [Value.int .i64 y0, .int .i64 y1]), (w1.heap.size, [Value.int .i64 x0, .int .i64 x1])] ((w1.alloc (.cells #[.int .i64 x0, .int .i64 x1] 24)).alloc (.cells #[.int .i64 y0, .int .i64 y1] 24)) := by
    have e : w1.heap.size + 1 = (w1.alloc (.cells #[.int .i64 x0, .int .i64 x1] 24)).heap.size := by simp
    rw [e]
    exact HeldL.new (HeldL.new ((HeldL.nil w).next b1))
  have r1' := r1.kept H3.below
  clear r0 r1
  go_wp2_with fail
  refine (drawInputs a1 len1 cap1 z1 _ hz1 hl1 r1').mono ?_
  rintro e w2 ⟨n, v, hn1, hn2, rfl, ⟨g, cap, zs, rfl, hcap, hg1, hg2, hlen, hin, hcell⟩, b2⟩
  have H5 := H3.next b2
  obtain ⟨L0, hL0⟩ : ∃ L, L = [(w1.heap.size + 1, [Value.int .i64 y0, .int .i64 y1]), (w1.heap.size, [Value.int .i64 x0, .int .i64 x1])] := ⟨_, rfl⟩
  have mA : (w1.heap.size, [Value.int .i64 x0, .int .i64 x1]) ∈ L0 := by rw [hL0]; simp
  have mB : (w1.heap.size + 1, [Value.int .i64 y0, .int .i64 y1]) ∈ L0 := by rw [hL0]; simp
  rw [← hL0] at H5
  have hL2 : HL w L0 g zs w2 := ⟨H5, hg2, hcell⟩
  have a0' := hL2.cell mA (i := 0) rfl
  have a1' := hL2.cell mA (i := 1) rfl
  have a2' := hL2.cell mB (i := 0) rfl
  have a3' := hL2.cell mB (i := 1) rfl
  dsimp only at a0' a1' a2' a3'
  clear r1' H3 b2 H5 hcell hg1 hg2 hcap b1 hL0
  obtain ⟨pl, ph, ql, qh, mo, hr0⟩ : ∃ p q r s t, itvNot op x0 x1 y0 y1 = ⟨p, q, r, s, t⟩ := ⟨_, _, _, _, _, two_is _⟩
  have hr : Hid (itvNot op x0 x1 y0 y1 = ⟨pl, ph, ql, qh, mo⟩) := hr0
  clear hr0
  go_wp2_with fail
  refine (itvNotI_is _ _ _ _ _ pl ph ql qh mo _ hr.out).mono ?_
  rintro e w3 ⟨rfl, b3⟩
  have H6 := HL.new2 (t := 24) (x := .int .i64 pl) (y := .int .i64 ph) (p := .int .i64 ql) (q := .int .i64 qh) (hL2.next b3)
  clear a0' a1' a2' a3' b3 hL2
  obtain ⟨L1, hL1⟩ : ∃ L, L = (w3.heap.size + 1, [Value.int .i64 ql, .int .i64 qh]) :: (w3.heap.size, [Value.int .i64 pl, .int .i64 ph]) :: L0 := ⟨_, rfl⟩
  rw [← hL1] at H6
  have mX : (w3.heap.size, [Value.int .i64 pl, .int .i64 ph]) ∈ L1 := by rw [hL1]; simp
  have mY : (w3.heap.size + 1, [Value.int .i64 ql, .int .i64 qh]) ∈ L1 := by rw [hL1]; simp
  have mA1 : (w1.heap.size, [Value.int .i64 x0, .int .i64 x1]) ∈ L1 := by rw [hL1]; simp [mA]
  have mB1 : (w1.heap.size + 1, [Value.int .i64 y0, .int .i64 y1]) ∈ L1 := by rw [hL1]; simp [mB]
  clear hL1 mA mB
  have mA := mA1
  have mB := mB1
  clear mA1 mB1
  have a0' := H6.cell mA (i := 0) rfl
  have a1' := H6.cell mA (i := 1) rfl
  have a2' := H6.cell mB (i := 0) rfl
  have a3' := H6.cell mB (i := 1) rfl
  dsimp only at a0' a1' a2' a3'
  go_wp2_with fail
  refine (itvNotS_is _ _ _ _ _ pl ph ql qh mo _ hr.out).mono ?_
  rintro e w4 ⟨rfl, b4⟩
  have H7 := HL.new2 (t := 24) (x := .int .i64 pl) (y := .int .i64 ph) (p := .int .i64 ql) (q := .int .i64 qh) (H6.next b4)
  clear a0' a1' a2' a3' b4 H6
  obtain ⟨Lb, hLb⟩ : ∃ L, L = (w4.heap.size + 1, [Value.int .i64 ql, .int .i64 qh]) :: (w4.heap.size, [Value.int .i64 pl, .int .i64 ph]) :: L1 := ⟨_, rfl⟩
  rw [← hLb] at H7
  have mV : (w4.heap.size, [Value.int .i64 pl, .int .i64 ph]) ∈ Lb := by rw [hLb]; simp
  have mW : (w4.heap.size + 1, [Value.int .i64 ql, .int .i64 qh]) ∈ Lb := by rw [hLb]; simp
  have mA1 : (w1.heap.size, [Value.int .i64 x0, .int .i64 x1]) ∈ Lb := by rw [hLb]; simp [mA]
  have mB1 : (w1.heap.size + 1, [Value.int .i64 y0, .int .i64 y1]) ∈ Lb := by rw [hLb]; simp [mB]
  have mX1 : (w3.heap.size, [Value.int .i64 pl, .int .i64 ph]) ∈ Lb := by rw [hLb]; simp [mX]
  have mY1 : (w3.heap.size + 1, [Value.int .i64 ql, .int .i64 qh]) ∈ Lb := by rw [hLb]; simp [mY]
  clear hLb mA mB mX mY
  have mA := mA1
  have mB := mB1
  have mX := mX1
  have mY := mY1
  clear mA1 mB1 mX1 mY1
  have a0' := H7.cell mA (i := 0) rfl
  have a1' := H7.cell mA (i := 1) rfl
  have b0' := H7.cell mX (i := 0) rfl
  have b1' := H7.cell mX (i := 1) rfl
  have b2' := H7.cell mY (i := 0) rfl
  have b3' := H7.cell mY (i := 1) rfl
  have c0' := H7.cell mV (i := 0) rfl
  have c1' := H7.cell mV (i := 1) rfl
  have c2' := H7.cell mW (i := 0) rfl
  have c3' := H7.cell mW (i := 1) rfl
  dsimp only at a0' a1' b0' b1' b2' b3' c0' c1' c2' c3'
  go_wp2_with fail
  refine (itvOkS _ _ _).mono ?_
  rintro e w5 ⟨rfl, b5⟩
  have H8 := H7.next b5
  clear a0' a1' b0' b1' b2' b3' c0' c1' c2' c3' b5 H7
  cases oka : itvOk x0 x1
  · obtain rfl : mo = false := by have := not_no (rel := op) (a := x0) (b := x1) (c := y0) (d := y1) (.inl oka); rw [hr.out] at this; exact this
    go_wp2_with (first | (go_at_call 12; refine (owOkT _).mono ?_; rintro e w' ⟨rfl, rfl⟩))
    go_ret
    exact ⟨rfl, H8.below⟩
  have a2' := H8.cell mB (i := 0) rfl
  have a3' := H8.cell mB (i := 1) rfl
  dsimp only at a2' a3'
  go_wp2_with fail
  refine (itvOkS _ _ _).mono ?_
  rintro e w6 ⟨rfl, b6⟩
  have H9 := H8.next b6
  clear a2' a3' b6 H8
  cases okb : itvOk y0 y1
  · obtain rfl : mo = false := by have := not_no (rel := op) (a := x0) (b := x1) (c := y0) (d := y1) (.inr (.inl okb)); rw [hr.out] at this; exact this
    go_wp2_with (first | (go_at_call 12; refine (owOkT _).mono ?_; rintro e w' ⟨rfl, rfl⟩))
    go_ret
    exact ⟨rfl, H9.below⟩
  by_cases o1 : op < 1
  · obtain rfl : mo = false := by have := not_no (rel := op) (a := x0) (b := x1) (c := y0) (d := y1) (.inr (.inr (.inl o1))); rw [hr.out] at this; exact this
    go_wp2_with (first | (go_at_call 12; refine (owOkT _).mono ?_; rintro e w' ⟨rfl, rfl⟩))
    go_ret
    exact ⟨rfl, H9.below⟩
  by_cases o2 : 4 < op
  · obtain rfl : mo = false := by have := not_no (rel := op) (a := x0) (b := x1) (c := y0) (d := y1) (.inr (.inr (.inr o2))); rw [hr.out] at this; exact this
    go_wp2_with (first | (go_at_call 12; refine (owOkT _).mono ?_; rintro e w' ⟨rfl, rfl⟩))
    go_ret
    exact ⟨rfl, H9.below⟩
  obtain ⟨sl, sh, tl, th, so, hq0⟩ : ∃ p q r s t, itvRel op x0 x1 y0 y1 = ⟨p, q, r, s, t⟩ := ⟨_, _, _, _, _, two_is _⟩
  have hq : Hid (itvRel op x0 x1 y0 y1 = ⟨sl, sh, tl, th, so⟩) := hq0
  have hor : Hid ((so || mo) = true) := by
    have := rel_or (rel := op) oka okb (by omega) (by omega)
    rw [hq0, hr.out] at this
    exact this
  clear hq0
  have a0' := H9.cell mA (i := 0) rfl
  have a1' := H9.cell mA (i := 1) rfl
  have a2' := H9.cell mB (i := 0) rfl
  have a3' := H9.cell mB (i := 1) rfl
  dsimp only at a0' a1' a2' a3'
  go_wp2_with fail
  refine (itvRelI_is _ _ _ _ _ sl sh tl th so _ hq.out).mono ?_
  rintro e w7 ⟨rfl, b7⟩
  have HA := HL.new2 (t := 24) (x := .int .i64 sl) (y := .int .i64 sh) (p := .int .i64 tl) (q := .int .i64 th) (H9.next b7)
  clear a0' a1' a2' a3' b7 H9
  obtain ⟨Lc, hLc⟩ : ∃ L, L = (w7.heap.size + 1, [Value.int .i64 tl, .int .i64 th]) :: (w7.heap.size, [Value.int .i64 sl, .int .i64 sh]) :: Lb := ⟨_, rfl⟩
  rw [← hLc] at HA
  have mA1 : (w1.heap.size, [Value.int .i64 x0, .int .i64 x1]) ∈ Lc := by rw [hLc]; simp [mA]
  have mB1 : (w1.heap.size + 1, [Value.int .i64 y0, .int .i64 y1]) ∈ Lc := by rw [hLc]; simp [mB]
  have mX1 : (w3.heap.size, [Value.int .i64 pl, .int .i64 ph]) ∈ Lc := by rw [hLc]; simp [mX]
  have mY1 : (w3.heap.size + 1, [Value.int .i64 ql, .int .i64 qh]) ∈ Lc := by rw [hLc]; simp [mY]
  clear hLc mA mB mX mY mV mW
  have mA := mA1
  have mB := mB1
  have mX := mX1
  have mY := mY1
  clear mA1 mB1 mX1 mY1
  clear Lb L1 L0
  obtain ⟨Lb, hLbc⟩ : ∃ L, L = Lc := ⟨_, rfl⟩
  rw [← hLbc] at HA mA mB mX mY
  have H9 := HA
  clear HA hLbc Lc
  have okaS : Hid (itvOk x0 x1 = true) := oka
  have okbS : Hid (itvOk y0 y1 = true) := okb
  have kx := (itvOk_of oka).2.2
  have ky := (itvOk_of okb).2.2
  clear oka okb hz0 hz1 hi0 hi1 hl0 hl1 hx0 hx1 hy0 hy1
  go_wp2_with fail
  go_loopw [19] (fun i W => ∃ k : Nat, k ≤ 12 ∧ i = .int .i64 k ∧ HL w Lb g zs W) (fun i _ => 12 - (intOf i).toNat)
  case atStart => exact ⟨0, by omega, rfl, H9⟩
  case round =>
    clear H9
    obtain ⟨k, hk, rfl, hS⟩ := hrel
    by_cases hlt : k < 12
    · have t1 : ((k : Int)).toNat = k := by omega
      have t2 : (0 : Int) ≤ (k : Int) := by omega
      have t3 : (k : Int) < 12 := by omega
      obtain ⟨y, hy0⟩ : ∃ y, zs.getD k 0 = y := ⟨_, rfl⟩
      have yr : -32768 ≤ y ∧ y ≤ 32767 := by
        rw [← hy0]
        refine hin _ ?_
        rw [List.getD_eq_getElem?_getD, List.getElem?_eq_getElem (by omega)]
        simp
      obtain ⟨yr1, yr2⟩ := yr
      have hy : Hid (some (Value.int .i64 (zs.getD k 0)) = some (.int .i64 y)) := by rw [hy0]; exact rfl
      obtain ⟨y3, h30⟩ : ∃ y3, y.tdiv 3 = y3 := ⟨_, rfl⟩
      have y3r := tdiv_small y 3 yr1 (by omega)
      rw [h30] at y3r
      obtain ⟨y31, y32⟩ := y3r
      have h3 : Hid (y.tdiv 3 = y3) := h30
      obtain ⟨u, hu0⟩ : ∃ u, pk x0 x1 (y + n) = u := ⟨_, rfl⟩
      obtain ⟨v, hv0⟩ : ∃ v, pk y0 y1 (y3 - n) = v := ⟨_, rfl⟩
      have hu : Hid (pk x0 x1 (y + n) = u) := hu0
      have hv : Hid (pk y0 y1 (y3 - n) = v) := hv0
      have ub := pk_in (n := y + n) kx
      have vb := pk_in (n := y3 - n) ky
      rw [hu0] at ub
      rw [hv0] at vb
      obtain ⟨st, hs0⟩ : ∃ t, relB op u v = t := ⟨_, rfl⟩
      have hs : Hid (relB op u v = st) := hs0
      have fin : Hid (st = false → mo = true ∧ itvHas pl ph u = true ∧ itvHas ql qh v = true) := by
        intro e
        have := not_in okaS.out okbS.out ub.1 ub.2 vb.1 vb.2 (show 1 ≤ op by omega) (by omega) (hs0.trans e)
        rw [hr.out] at this
        exact this
      clear hy0 h30 hu0 hv0 ub vb hs0
      have hS0 := hS.drew
      clear hS
      go_wp2_with fail
      refine region_inv3 [(0, 105), (1, 106), (2, 107), (3, 108), (4, 109), (5, 110), (6, 111), (7, 112), (8, 20)]
        (fun j vx _ => match j with
          | 0 => Is (.agg #[.int .i64 x0, .int .i64 x1]) vx
          | 1 => Is (.slice (some ⟨g, 0, none⟩) 12 cap) vx
          | 2 => Is (.int .i64 k) vx
          | 3 => Is (.pointer (some ⟨g, k, none⟩)) vx
          | 4 => Is (.int .i64 (y)) vx
          | 5 => Is (.int .i64 (n)) vx
          | 6 => Is (.int .i64 (y + n)) vx
          | 7 => Is (.int .i64 (u)) vx
          | 8 => Is (.int .i64 (u)) vx
          | _ => True)
        (fun _ W => HL w Lb g zs W) TT
        (by kernel_rfl) (by kernel_rfl) (by kernel_rfl) (by kernel_rfl) (by kernel_rfl) rfl hS0 (fun i j v W W' _ h _ => h) ?_ ?_
      · intro i L vals W hi' hφ hS hL hd
        have hi2 : i < 9 := hi'
        clear hi'
        rcases (show i = 0 ∨ i = 1 ∨ i = 2 ∨ i = 3 ∨ i = 4 ∨ i = 5 ∨ i = 6 ∨ i = 7 ∨ i = 8 by omega) with rfl | rfl | rfl | rfl | rfl | rfl | rfl | rfl | rfl
        · have c0 : W.cell? ⟨w1.heap.size, 0, none⟩ = some (.int .i64 x0) := HL.cell hS mA (i := 0) rfl
          have c1 : W.cell? ⟨w1.heap.size, 1, none⟩ = some (.int .i64 x1) := HL.cell hS mA (i := 1) rfl
          refine wpAt_of rfl rfl ?_
          simp only [frOf, Act.put]
          go_wp2_with fail
          first | exact ⟨trivial, rfl, trivial, hS⟩ | exact ⟨rfl, trivial, hS⟩
        · refine wpAt_of rfl rfl ?_
          simp only [frOf, Act.put]
          go_wp2_with fail
          first | exact ⟨trivial, rfl, trivial, hS⟩ | exact ⟨rfl, trivial, hS⟩
        · refine wpAt_of rfl rfl ?_
          simp only [frOf, Act.put]
          go_wp2_with fail
          first | exact ⟨trivial, rfl, trivial, hS⟩ | exact ⟨rfl, trivial, hS⟩
        · have k1 : vals 1 = .slice (some ⟨g, 0, none⟩) 12 cap := hφ 1 (hd 1 (by decide))
          have k2 : vals 2 = .int .i64 k := hφ 2 (hd 2 (by decide))
          refine wpAt_of rfl rfl ?_
          simp only [frOf, Act.put]
          go_wp2_with fail
          first | exact ⟨trivial, rfl, trivial, hS⟩ | exact ⟨rfl, trivial, hS⟩
        · have k3 : vals 3 = .pointer (some ⟨g, k, none⟩) := hφ 3 (hd 3 (by decide))
          have cy : W.cell? ⟨g, k, none⟩ = some (.int .i64 y) := (HL.cells hS k hlt).trans hy.out
          refine wpAt_of rfl rfl ?_
          simp only [frOf, Act.put]
          go_wp2_with fail
          first | exact ⟨trivial, rfl, trivial, hS⟩ | exact ⟨rfl, trivial, hS⟩
        · refine wpAt_of rfl rfl ?_
          simp only [frOf, Act.put]
          go_wp2_with fail
          first | exact ⟨trivial, rfl, trivial, hS⟩ | exact ⟨rfl, trivial, hS⟩
        · have k4 : vals 4 = .int .i64 (y) := hφ 4 (hd 4 (by decide))
          have k5 : vals 5 = .int .i64 (n) := hφ 5 (hd 5 (by decide))
          refine wpAt_of rfl rfl ?_
          simp only [frOf, Act.put]
          go_wp2_with fail
          first | exact ⟨trivial, rfl, trivial, hS⟩ | exact ⟨rfl, trivial, hS⟩
        · have k0 : vals 0 = .agg #[.int .i64 x0, .int .i64 x1] := hφ 0 (hd 0 (by decide))
          have k6 : vals 6 = .int .i64 (y + n) := hφ 6 (hd 6 (by decide))
          refine wpAt_of rfl rfl ?_
          simp only [frOf, Act.put]
          go_wp2_with fail
          refine (owPick_is _ _ _ u _ okaS.out hu.out).mono ?_
          rintro e W' ⟨rfl, hb⟩
          go_wp2_with fail
          first | exact ⟨trivial, rfl, trivial, HL.next hb hS⟩ | exact ⟨rfl, trivial, HL.next hb hS⟩
        · have k7 : vals 7 = .int .i64 (u) := hφ 7 (hd 7 (by decide))
          refine wpAt_of rfl rfl ?_
          simp only [frOf, Act.put]
          go_wp2_with fail
          first | exact ⟨trivial, rfl, trivial, hS⟩ | exact ⟨rfl, trivial, hS⟩
      · intro L vals W hall hφ hS
        have k0 : vals 0 = .agg #[.int .i64 x0, .int .i64 x1] := hφ 0 (by decide)
        have k1 : vals 1 = .slice (some ⟨g, 0, none⟩) 12 cap := hφ 1 (by decide)
        have k2 : vals 2 = .int .i64 k := hφ 2 (by decide)
        have k3 : vals 3 = .pointer (some ⟨g, k, none⟩) := hφ 3 (by decide)
        have k4 : vals 4 = .int .i64 (y) := hφ 4 (by decide)
        have k5 : vals 5 = .int .i64 (n) := hφ 5 (by decide)
        have k6 : vals 6 = .int .i64 (y + n) := hφ 6 (by decide)
        have k7 : vals 7 = .int .i64 (u) := hφ 7 (by decide)
        have k8 : vals 8 = .int .i64 (u) := hφ 8 (by decide)
        simp only [frOf, Act.put, List.setIfInBounds_toArray, List.set_cons_succ, List.set_cons_zero, k0, k1, k2, k3, k4, k5, k6, k7, k8]
        clear k0 k1 k2 k3 k4 k5 k6 k7 k8
        clear hall hφ hS0
        have hS0 := hS.drew
        clear hS
        go_wp2_with fail
        refine region_inv3 [(0, 113), (1, 114), (2, 115), (3, 116), (4, 117), (5, 118), (6, 119), (7, 120), (8, 121), (9, 21)]
          (fun j vx _ => match j with
            | 0 => Is (.agg #[.int .i64 y0, .int .i64 y1]) vx
            | 1 => Is (.slice (some ⟨g, 0, none⟩) 12 cap) vx
            | 2 => Is (.int .i64 k) vx
            | 3 => Is (.pointer (some ⟨g, k, none⟩)) vx
            | 4 => Is (.int .i64 (y)) vx
            | 5 => Is (.int .i64 (y3)) vx
            | 6 => Is (.int .i64 (n)) vx
            | 7 => Is (.int .i64 (y3 - n)) vx
            | 8 => Is (.int .i64 (v)) vx
            | 9 => Is (.int .i64 (v)) vx
            | _ => True)
          (fun _ W => HL w Lb g zs W) TT
          (by kernel_rfl) (by kernel_rfl) (by kernel_rfl) (by kernel_rfl) (by kernel_rfl) rfl hS0 (fun i j v W W' _ h _ => h) ?_ ?_
        · intro i L vals W hi' hφ hS hL hd
          have hi2 : i < 10 := hi'
          clear hi'
          rcases (show i = 0 ∨ i = 1 ∨ i = 2 ∨ i = 3 ∨ i = 4 ∨ i = 5 ∨ i = 6 ∨ i = 7 ∨ i = 8 ∨ i = 9 by omega) with rfl | rfl | rfl | rfl | rfl | rfl | rfl | rfl | rfl | rfl
          · have c0 : W.cell? ⟨w1.heap.size + 1, 0, none⟩ = some (.int .i64 y0) := HL.cell hS mB (i := 0) rfl
            have c1 : W.cell? ⟨w1.heap.size + 1, 1, none⟩ = some (.int .i64 y1) := HL.cell hS mB (i := 1) rfl
            refine wpAt_of rfl rfl ?_
            simp only [frOf, Act.put]
            go_wp2_with fail
            first | exact ⟨trivial, rfl, trivial, hS⟩ | exact ⟨rfl, trivial, hS⟩
          · refine wpAt_of rfl rfl ?_
            simp only [frOf, Act.put]
            go_wp2_with fail
            first | exact ⟨trivial, rfl, trivial, hS⟩ | exact ⟨rfl, trivial, hS⟩
          · refine wpAt_of rfl rfl ?_
            simp only [frOf, Act.put]
            go_wp2_with fail
            first | exact ⟨trivial, rfl, trivial, hS⟩ | exact ⟨rfl, trivial, hS⟩
          · have k1 : vals 1 = .slice (some ⟨g, 0, none⟩) 12 cap := hφ 1 (hd 1 (by decide))
            have k2 : vals 2 = .int .i64 k := hφ 2 (hd 2 (by decide))
            refine wpAt_of rfl rfl ?_
            simp only [frOf, Act.put]
            go_wp2_with fail
            first | exact ⟨trivial, rfl, trivial, hS⟩ | exact ⟨rfl, trivial, hS⟩
          · have k3 : vals 3 = .pointer (some ⟨g, k, none⟩) := hφ 3 (hd 3 (by decide))
            have cy : W.cell? ⟨g, k, none⟩ = some (.int .i64 y) := (HL.cells hS k hlt).trans hy.out
            refine wpAt_of rfl rfl ?_
            simp only [frOf, Act.put]
            go_wp2_with fail
            first | exact ⟨trivial, rfl, trivial, hS⟩ | exact ⟨rfl, trivial, hS⟩
          · have k4 : vals 4 = .int .i64 (y) := hφ 4 (hd 4 (by decide))
            refine wpAt_of rfl rfl ?_
            simp only [frOf, Act.put]
            go_wp2_with fail
            first | exact ⟨trivial, congrArg (Value.int .i64) h3.out, trivial, hS⟩ | exact ⟨congrArg (Value.int .i64) h3.out, trivial, hS⟩
          · refine wpAt_of rfl rfl ?_
            simp only [frOf, Act.put]
            go_wp2_with fail
            first | exact ⟨trivial, rfl, trivial, hS⟩ | exact ⟨rfl, trivial, hS⟩
          · have k5 : vals 5 = .int .i64 (y3) := hφ 5 (hd 5 (by decide))
            have k6 : vals 6 = .int .i64 (n) := hφ 6 (hd 6 (by decide))
            refine wpAt_of rfl rfl ?_
            simp only [frOf, Act.put]
            go_wp2_with fail
            first | exact ⟨trivial, rfl, trivial, hS⟩ | exact ⟨rfl, trivial, hS⟩
          · have k0 : vals 0 = .agg #[.int .i64 y0, .int .i64 y1] := hφ 0 (hd 0 (by decide))
            have k7 : vals 7 = .int .i64 (y3 - n) := hφ 7 (hd 7 (by decide))
            refine wpAt_of rfl rfl ?_
            simp only [frOf, Act.put]
            go_wp2_with fail
            refine (owPick_is _ _ _ v _ okbS.out hv.out).mono ?_
            rintro e W' ⟨rfl, hb⟩
            go_wp2_with fail
            first | exact ⟨trivial, rfl, trivial, HL.next hb hS⟩ | exact ⟨rfl, trivial, HL.next hb hS⟩
          · have k8 : vals 8 = .int .i64 (v) := hφ 8 (hd 8 (by decide))
            refine wpAt_of rfl rfl ?_
            simp only [frOf, Act.put]
            go_wp2_with fail
            first | exact ⟨trivial, rfl, trivial, hS⟩ | exact ⟨rfl, trivial, hS⟩
        · intro L vals W hall hφ hS
          have k0 : vals 0 = .agg #[.int .i64 y0, .int .i64 y1] := hφ 0 (by decide)
          have k1 : vals 1 = .slice (some ⟨g, 0, none⟩) 12 cap := hφ 1 (by decide)
          have k2 : vals 2 = .int .i64 k := hφ 2 (by decide)
          have k3 : vals 3 = .pointer (some ⟨g, k, none⟩) := hφ 3 (by decide)
          have k4 : vals 4 = .int .i64 (y) := hφ 4 (by decide)
          have k5 : vals 5 = .int .i64 (y3) := hφ 5 (by decide)
          have k6 : vals 6 = .int .i64 (n) := hφ 6 (by decide)
          have k7 : vals 7 = .int .i64 (y3 - n) := hφ 7 (by decide)
          have k8 : vals 8 = .int .i64 (v) := hφ 8 (by decide)
          have k9 : vals 9 = .int .i64 (v) := hφ 9 (by decide)
          simp only [frOf, Act.put, List.setIfInBounds_toArray, List.set_cons_succ, List.set_cons_zero, k0, k1, k2, k3, k4, k5, k6, k7, k8, k9]
          clear k0 k1 k2 k3 k4 k5 k6 k7 k8 k9
          clear hall hφ hS0
          go_wp2_with fail
          refine (relI_is _ _ _ st _ hs.out).mono ?_
          rintro e w7 ⟨rfl, b7⟩
          have hS7 := hS.next b7
          clear hS b7
          cases st
          · obtain ⟨rfl, hh1, hh2⟩ := fin.out rfl
            have hhS : Hid (itvHas pl ph u = true) := hh1
            have hhT : Hid (itvHas ql qh v = true) := hh2
            clear hh1 hh2 fin
            have x0' : w7.cell? ⟨w3.heap.size, 0, none⟩ = some (.int .i64 pl) := hS7.cell mX (i := 0) rfl
            have x1' : w7.cell? ⟨w3.heap.size, 1, none⟩ = some (.int .i64 ph) := hS7.cell mX (i := 1) rfl
            go_wp2_with fail
            refine (hasI_is _ _ _ true _ hhS.out).mono ?_
            rintro e w8 ⟨rfl, b8⟩
            have hS8 := hS7.next b8
            clear hS7 b8 x0' x1'
            have x0' : w8.cell? ⟨w3.heap.size + 1, 0, none⟩ = some (.int .i64 ql) := hS8.cell mY (i := 0) rfl
            have x1' : w8.cell? ⟨w3.heap.size + 1, 1, none⟩ = some (.int .i64 qh) := hS8.cell mY (i := 1) rfl
            go_wp2_with fail
            refine (hasI_is _ _ _ true _ hhT.out).mono ?_
            rintro e w9 ⟨rfl, b9⟩
            have hS9 := hS8.next b9
            clear hS8 b9 x0' x1'
            go_wp2_with fail
            go_roundw
            case rel => exact ⟨k + 1, by omega, by go_num, hS9⟩
            case measure => simp [intOf]; omega
          · go_wp2_with fail
            go_roundw
            case rel => exact ⟨k + 1, by omega, by go_num, hS7⟩
            case measure => simp [intOf]; omega
    · obtain rfl : k = 12 := by omega
      cases so
      · obtain rfl : mo = true := by simpa using hor.out
        go_wp2_with fail
        go_ret
        exact ⟨rfl, hS.below⟩
      · go_wp2_with fail
        go_ret
        exact ⟨rfl, hS.below⟩

theorem contract (H : Type) (enc : TypeId × Value → H) (W : World) (base : Nat) (args : Array Value) (ds gs : List (DataW H)) (before : List MemPlace)
    (hval : ∀ (j : Nat) t v, Try.f6.params[j]? = some t → args[j]? = some v → Value.okWide Try.prog W .any base t v)
    (hW : DataW.Whole enc Try.prog Try.f6.params.toList Rows.fnItvNotSpec.vars false W args.toList ds gs before) :
    Calls Try.prog 6 args W fun e W' => ∃ v, e = .returned v ∧ Rows.fnItvNotSpec.post enc Try.prog Try.f6 false true false false W args v W' := by
  have hW' := hW
  obtain ⟨p, q, hA0, hV, rfl, hfz, hnd⟩ := hW
  have hA : DataW.TrodAll enc Try.prog W 0 (fun _ => true) true Try.f6.params.toList args.toList ds p := hA0
  rw [Try.params6] at hA hval
  obtain ⟨v0, vs0, d0, ds0, p0, q0, hargs, rfl, rfl, h0, r0'⟩ := trodAll_cons hA
  obtain ⟨v1, vs1, d1, ds1, p1, q1, rfl, rfl, rfl, h1, r1'⟩ := trodAll_cons r0'
  obtain ⟨rfl, rfl, rfl⟩ := trodAll_nil r1'
  obtain rfl : args = #[v0, v1] := by cases args; simp_all
  obtain ⟨rfl, rfl⟩ := trodVars_none hV
  obtain ⟨a0, len0, cap0, rfl⟩ := okWide_slice Try.underlying22 (hval 0 22 v0 rfl rfl)
  have k0 := h0
  have lt0 : ∀ x ∈ p0, x.block < W.heap.size := by obtain ⟨m, hm⟩ := k0; exact DataW.trod_lt m _ _ _ hm
  obtain ⟨z0, hz0, r0⟩ : ∃ z : Nat → Int, (∀ i, 0 ≤ z i ∧ z i ≤ 255) ∧ Bytes W a0 len0 cap0 z := by
    obtain ⟨fuel, hf⟩ := h0
    rcases open_ints Try.underlying22 Try.underlying5 (by kernel_rfl) hf with ⟨hcs, _⟩ | ⟨x, l, c, zs, hcs, _, hl, hm, hz, _, hcell, hwz⟩
    · simp [Value.cells] at hcs
      obtain ⟨rfl, rfl, rfl⟩ := hcs
      exact ⟨fun _ => 0, fun _ => by simp, .inl rfl⟩
    · simp [Value.cells] at hcs
      obtain ⟨rfl, rfl, rfl⟩ := hcs
      exact bytes_of hl (by simpa using hz) hcell hwz
  obtain ⟨a1, len1, cap1, rfl⟩ := okWide_slice Try.underlying22 (hval 1 22 v1 rfl rfl)
  have k1 := h1
  have lt1 : ∀ x ∈ p1, x.block < W.heap.size := by obtain ⟨m, hm⟩ := k1; exact DataW.trod_lt m _ _ _ hm
  obtain ⟨z1, hz1, r1⟩ : ∃ z : Nat → Int, (∀ i, 0 ≤ z i ∧ z i ≤ 255) ∧ Bytes W a1 len1 cap1 z := by
    obtain ⟨fuel, hf⟩ := h1
    rcases open_ints Try.underlying22 Try.underlying5 (by kernel_rfl) hf with ⟨hcs, _⟩ | ⟨x, l, c, zs, hcs, _, hl, hm, hz, _, hcell, hwz⟩
    · simp [Value.cells] at hcs
      obtain ⟨rfl, rfl, rfl⟩ := hcs
      exact ⟨fun _ => 0, fun _ => by simp, .inl rfl⟩
    · simp [Value.cells] at hcs
      obtain ⟨rfl, rfl, rfl⟩ := hcs
      exact bytes_of hl (by simpa using hz) hcell hwz
  clear hA0
  refine (walk a0 len0 cap0 z0 a1 len1 cap1 z1 W hz0 r0 hz1 r1).mono fun e W' ⟨he, bel⟩ => ?_
  subst he
  exact ⟨_, rfl, _, _, _, [], _, [], hW', trodAll_mk1 (shut_bool Try.underlying4 _), (trodAll_cons_mk (Below.trod laidOut (by kernel_rfl) (of_decide_eq_true (by kernel_rfl)) k0 bel lt0) (trodAll_cons_mk (Below.trod laidOut (by kernel_rfl) (of_decide_eq_true (by kernel_rfl)) k1 bel lt1) trodAll_mk0)), rfl, bel.frame _, fun h => by cases h⟩

set_option maxRecDepth 100000 in
theorem lifted (os : Os) (started : os.Started) (H : Type) (enc : TypeId × Value → H) :
    ReturnsInHanded {} Try.checked os 6 .any (Rows.fnItvNotSpec.pre6 enc Try.prog Try.f6 Rows.fnItvNotRow.domain false) (Rows.fnItvNotSpec.post enc Try.prog Try.f6 false true false false) := by
  refine returnsInHanded_of_change (C := Try.checked) own started (by kernel_rfl) Try.func6
    (ChangeSpec.witness6 (enc := enc) (C := Try.checked) false ⟨#[], #[.slice none 0 0, .slice none 0 0], []⟩ 8 (by kernel_rfl) (by kernel_rfl) (by kernel_rfl) (by kernel_rfl)) ?_
  intro W base args ds gs before hval hW _ _
  exact contract H enc W base args ds gs before hval hW

theorem proved : Rows.FnItvNotSaid :=
  OpenClaim.holds_of_wide 6 Try.f6 rfl rfl rfl rfl rfl rfl rfl ⟨rfl, rfl, rfl, rfl, rfl⟩ rfl rfl rfl rfl rfl (by kernel_rfl) Try.func6 (by kernel_rfl)
    (of_decide_eq_true (by kernel_rfl)) (by unfold Func.isWrapper; first | (rw [if_pos (by decide +kernel)]; kernel_rfl) | (rw [if_neg (by decide +kernel)]; exact ⟨rfl, rfl⟩))
    (fun os started H enc _ => lifted os started H enc)
#print axioms proved
end Go.Proofs.Ytceanngbcolbaaa.fnItvNot
