/- Whatever bytes are handed in, the law FnAbsOut returns true. Of more than 1048576 bytes the law itself answers true. No condition. -/
import Derived.Test.YtehcfiihfdgokaaDrawAbsOut
import Derived.Test.YtehcfiihfdgokaaAbsOut
import Derived.Test.YtehcfiihfdgokaaAbsX
import Derived.Test.YtehcfiihfdgokaaExLaw
import Derived.Test.YtehcfiihfdgokaaHeld
import Derived.Test.YtehcfiihfdgokaaHeld8
import Derived.Deep.RegionHeld3
import Derived.Deep.DeepCutAuto
import Derived.WalkKit
import Derived.ProofKit
import Derived.OpenShut
import Derived.ShutString
import Derived.ChangeOld
import Derived.Below
namespace Go.Proofs.Ytehcfiihfdgokaa.fnAbsOut
open Go.ChangeShapes Go.WideShapes Go.ChangeAt Go.RowKit
open Go.ChangeMaps (open_string shut_string)
set_option linter.unusedVariables false

theorem own : ownKnob Try.prog.godebug = none := by kernel_rfl
theorem laidOut : laidOutB Try.prog = true := by kernel_rfl

theorem owOkA (w : World) : Calls Try.prog 10 #[] w fun e w' => e = .returned (.bool true) ∧ w' = w := by
  go_enter Try.func10, Try.ntmps10
  go_wp2_with (go_at_call 31; refine (okI _ _).mono ?_; rintro e w' ⟨rfl, rfl⟩)
  go_ret
  exact ⟨rfl, rfl⟩
theorem outB_no {o aa : Int} {on : Bool} {n : Nat} {lo hi : Nat → Int} {c d : Int} (k : o ≠ 12 ∨ absOk on n lo hi c d = false ∨ on = false ∨ aa < 0 ∨ 4 ≤ aa) : outB o aa on n lo hi c d = false ∧ outLo o aa on n lo hi c d = 0 ∧ outHi o aa on n lo hi c d = 0 := by
  have e : outB o aa on n lo hi c d = false := by
    unfold outB
    rcases k with k | k | k | k | k
    · simp [k]
    · simp [k]
    · subst k; simp
    · rw [decide_eq_false (show ¬ 0 ≤ aa by omega)]; simp
    · rw [decide_eq_false (show ¬ aa ≤ 3 by omega)]; simp
  unfold outLo outHi
  rw [e]
  simp
theorem outB_yes {o aa : Int} {on : Bool} {n : Nat} {lo hi : Nat → Int} {c d : Int} (h1 : o = 12) (h2 : absOk on n lo hi c d = true) (h3 : on = true) (h4 : 0 ≤ aa) (h5 : aa ≤ 3) : outB o aa on n lo hi c d = true ∧ outLo o aa on n lo hi c d = lo aa.toNat ∧ outHi o aa on n lo hi c d = hi aa.toNat := by
  have e : outB o aa on n lo hi c d = true := by
    subst h1 h3
    unfold outB
    rw [h2]
    simp [h4, h5]
  unfold outLo outHi
  rw [e]
  simp

set_option maxRecDepth 10000 in
set_option maxHeartbeats 40000000 in
theorem walk (a0 : Option Addr) (len0 cap0 : Nat) (z0 : Nat → Int) (w : World) (hz0 : ∀ i, 0 ≤ z0 i ∧ z0 i ≤ 255) (r0 : Bytes w a0 len0 cap0 z0) :
    Calls Try.prog 3 #[.slice a0 len0 cap0] w fun e w' => e = .returned (.bool true) ∧ Below w.heap.size w w' := by
  by_cases hl0 : len0 ≤ 1048576
  case neg =>
    have hi : (1048576 : Int) < (len0 : Int) := by omega
    go_enter Try.func3, Try.ntmps3
    go_wp2_with fail
    go_ret
    exact ⟨rfl, Below.refl _ _⟩
  have hi0 : ¬ (1048576 : Int) < (len0 : Int) := by omega
  go_enter Try.func3, Try.ntmps3
  go_wp2_with fail
  refine (drawAbsOut a0 len0 cap0 z0 _ hz0 hl0 r0).mono ?_
  rintro e w1 ⟨o, d, a, b, r, l, h, t, v, hI, ⟨on, aa, g, n, cp, zs, sx, sy, rfl, hn4, ha, hc⟩, rfl, b1⟩
  obtain ⟨lo, hi, hB1⟩ : ∃ lo hi, BndsAt aa g 0 n lo hi w1 := ⟨fun k => zs (k * 2), fun k => zs (k * 2 + 1), fun hn => (ha hn).1, fun hn => (ha hn).2.2, fun k hk => by simpa using hc (k * 2) (by omega), fun k hk => by simpa using hc (k * 2 + 1) (by omega)⟩
  clear ha hc hI hi0 hl0 hz0 r0
  have b2 : Below w1.heap.size w1 ((w1.alloc (.cells #[.int .i64 o, .int .i64 d, .int .i64 a, .int .i64 b, .int .i64 r, .int .i64 l, .int .i64 h, .int .i64 t] 24)).alloc (.cells #[.bool on, .slice aa n cp, .int .i64 sx, .int .i64 sy] 29)) := ((Below.refl _ _).alloc (Nat.le_refl _) _).alloc (by simp) _
  have H : HeldL w [(w1.heap.size + 1, [Value.bool on, .slice aa n cp, .int .i64 sx, .int .i64 sy]), (w1.heap.size, [Value.int .i64 o, .int .i64 d, .int .i64 a, .int .i64 b, .int .i64 r, .int .i64 l, .int .i64 h, .int .i64 t])] ((w1.alloc (.cells #[.int .i64 o, .int .i64 d, .int .i64 a, .int .i64 b, .int .i64 r, .int .i64 l, .int .i64 h, .int .i64 t] 24)).alloc (.cells #[.bool on, .slice aa n cp, .int .i64 sx, .int .i64 sy] 29)) := by
    have e1 : w1.heap.size + 1 = (w1.alloc (.cells #[.int .i64 o, .int .i64 d, .int .i64 a, .int .i64 b, .int .i64 r, .int .i64 l, .int .i64 h, .int .i64 t] 24)).heap.size := by simp
    rw [e1]
    exact HeldL.newL (vs := [Value.bool on, .slice aa n cp, .int .i64 sx, .int .i64 sy]) (HeldL.newL (vs := [Value.int .i64 o, .int .i64 d, .int .i64 a, .int .i64 b, .int .i64 r, .int .i64 l, .int .i64 h, .int .i64 t]) ((HeldL.nil w).next b1))
  obtain ⟨Lb, hLb⟩ : ∃ L, L = [(w1.heap.size + 1, [Value.bool on, .slice aa n cp, .int .i64 sx, .int .i64 sy]), (w1.heap.size, [Value.int .i64 o, .int .i64 d, .int .i64 a, .int .i64 b, .int .i64 r, .int .i64 l, .int .i64 h, .int .i64 t])] := ⟨_, rfl⟩
  have mI : (w1.heap.size, [Value.int .i64 o, .int .i64 d, .int .i64 a, .int .i64 b, .int .i64 r, .int .i64 l, .int .i64 h, .int .i64 t]) ∈ Lb := by rw [hLb]; simp
  have mS : (w1.heap.size + 1, [Value.bool on, .slice aa n cp, .int .i64 sx, .int .i64 sy]) ∈ Lb := by rw [hLb]; simp
  rw [← hLb] at H
  have hB2 := hB1.next b2
  clear hLb b1 b2 hB1
  obtain ⟨so, hd0'⟩ : ∃ q, outB o a on n lo hi sx sy = q := ⟨_, rfl⟩
  have hd0 : Hid (outB o a on n lo hi sx sy = so) := hd0'
  clear hd0'
  obtain ⟨sl, hd1'⟩ : ∃ q, outLo o a on n lo hi sx sy = q := ⟨_, rfl⟩
  have hd1 : Hid (outLo o a on n lo hi sx sy = sl) := hd1'
  clear hd1'
  obtain ⟨sh, hd2'⟩ : ∃ q, outHi o a on n lo hi sx sy = q := ⟨_, rfl⟩
  have hd2 : Hid (outHi o a on n lo hi sx sy = sh) := hd2'
  clear hd2'
  have c0 := H.cell mI (i := 0) rfl
  have c1 := H.cell mI (i := 1) rfl
  have c2 := H.cell mI (i := 2) rfl
  have c3 := H.cell mI (i := 3) rfl
  have c4 := H.cell mI (i := 4) rfl
  have c5 := H.cell mI (i := 5) rfl
  have c6 := H.cell mI (i := 6) rfl
  have c7 := H.cell mI (i := 7) rfl
  have s0 := H.cell mS (i := 0) rfl
  have s1 := H.cell mS (i := 1) rfl
  have s2 := H.cell mS (i := 2) rfl
  have s3 := H.cell mS (i := 3) rfl
  dsimp only at c0 c1 c2 c3 c4 c5 c6 c7 s0 s1 s2 s3
  go_wp2_with fail
  refine (absOutI o d a b r l h t on aa g 0 n cp lo hi sx sy _ (by omega) hB2).mono ?_
  rintro e w2 ⟨rfl, b3⟩
  rw [hd0.out, hd1.out, hd2.out]
  have hB3 := (hB2.next b3).next (show Below w2.heap.size w2 (w2.alloc (.cells #[.bool so, .int .i64 sl, .int .i64 sh] 33)) from (Below.refl _ _).alloc (Nat.le_refl _) _)
  have H3 := HeldL.newL (vs := [Value.bool so, .int .i64 sl, .int .i64 sh]) (t := 33) (HeldL.next b3 H)
  clear H b3 hB2 c0 c1 c2 c3 c4 c5 c6 c7 s0 s1 s2 s3
  obtain ⟨L3, hL⟩ : ∃ L, L = (w2.heap.size, [Value.bool so, .int .i64 sl, .int .i64 sh]) :: Lb := ⟨_, rfl⟩
  rw [← hL] at H3
  have mU : (w2.heap.size, [Value.bool so, .int .i64 sl, .int .i64 sh]) ∈ L3 := by rw [hL]; simp
  replace mI := List.mem_cons_of_mem (w2.heap.size, [Value.bool so, .int .i64 sl, .int .i64 sh]) mI
  rw [← hL] at mI
  replace mS := List.mem_cons_of_mem (w2.heap.size, [Value.bool so, .int .i64 sl, .int .i64 sh]) mS
  rw [← hL] at mS
  clear hL
  obtain ⟨X, hX⟩ : ∃ X, X = w1.heap.size := ⟨_, rfl⟩
  obtain ⟨Y, hY⟩ : ∃ Y, Y = w1.heap.size + 1 := ⟨_, rfl⟩
  obtain ⟨Z, hZ⟩ : ∃ Z, Z = w2.heap.size := ⟨_, rfl⟩
  obtain ⟨wz, hwz⟩ : ∃ W, W = w2.alloc (.cells #[.bool so, .int .i64 sl, .int .i64 sh] 33) := ⟨_, rfl⟩
  rw [← hwz] at H3 hB3
  rw [← hY] at mS
  rw [← hX] at mI
  rw [← hZ] at mU
  have hXh : Hid (X = w1.heap.size) := hX
  have hYh : Hid (Y = w1.heap.size + 1) := hY
  have hZh : Hid (Z = w2.heap.size) := hZ
  have hwh : Hid (wz = w2.alloc (.cells #[.bool so, .int .i64 sl, .int .i64 sh] 33)) := hwz
  clear hX hY hZ hwz
  have hS0 : HX w wz L3 wz.drew := ⟨HeldL.drew H3, (Below.refl _ wz).drew⟩
  go_wp2_with fail
  rw [← hwh.out, ← hYh.out, ← hXh.out, ← hZh.out]
  clear hXh hYh hZh hwh
  refine region_inv3 [(0, 17), (1, 18), (2, 19), (3, 20), (4, 21)]
    (fun j v _ => match j with
      | 0 => Is (.agg #[.bool so, .int .i64 sl, .int .i64 sh]) v
      | 1 => Is (.agg #[.int .i64 o, .int .i64 d, .int .i64 a, .int .i64 b, .int .i64 r, .int .i64 l, .int .i64 h, .int .i64 t]) v
      | 2 => Is (.agg #[.bool on, .slice aa n cp, .int .i64 sx, .int .i64 sy]) v
      | 3 => Is (.agg #[.bool so, .int .i64 sl, .int .i64 sh]) v
      | 4 => Is (.bool false) v
      | _ => True)
    (fun _ W => HX w wz L3 W) TT
    (by kernel_rfl) (by kernel_rfl) (by kernel_rfl) (by kernel_rfl) (by kernel_rfl) rfl hS0 (fun i j v W W' _ h _ => h) ?_ ?_
  · intro i L vals W hi' hφ hS hL hd
    have hi2 : i < 5 := hi'
    clear hi'
    rcases (show i = 0 ∨ i = 1 ∨ i = 2 ∨ i = 3 ∨ i = 4 by omega) with rfl | rfl | rfl | rfl | rfl
    · have c0 := hS.cell mU (i := 0) rfl
      have c1 := hS.cell mU (i := 1) rfl
      have c2 := hS.cell mU (i := 2) rfl
      dsimp only at c0 c1 c2
      refine wpAt_of rfl rfl ?_
      simp only [frOf, Act.put]
      go_wp2_with fail
      first | exact ⟨trivial, rfl, trivial, hS⟩ | exact ⟨rfl, trivial, hS⟩ | exact ⟨trivial, rfl, trivial⟩ | exact ⟨rfl, trivial⟩ | exact rfl
    · have c0 := hS.cell mI (i := 0) rfl
      have c1 := hS.cell mI (i := 1) rfl
      have c2 := hS.cell mI (i := 2) rfl
      have c3 := hS.cell mI (i := 3) rfl
      have c4 := hS.cell mI (i := 4) rfl
      have c5 := hS.cell mI (i := 5) rfl
      have c6 := hS.cell mI (i := 6) rfl
      have c7 := hS.cell mI (i := 7) rfl
      dsimp only at c0 c1 c2 c3 c4 c5 c6 c7
      refine wpAt_of rfl rfl ?_
      simp only [frOf, Act.put]
      go_wp2_with fail
      first | exact ⟨trivial, rfl, trivial, hS⟩ | exact ⟨rfl, trivial, hS⟩ | exact ⟨trivial, rfl, trivial⟩ | exact ⟨rfl, trivial⟩ | exact rfl
    · have c0 := hS.cell mS (i := 0) rfl
      have c1 := hS.cell mS (i := 1) rfl
      have c2 := hS.cell mS (i := 2) rfl
      have c3 := hS.cell mS (i := 3) rfl
      dsimp only at c0 c1 c2 c3
      refine wpAt_of rfl rfl ?_
      simp only [frOf, Act.put]
      go_wp2_with fail
      first | exact ⟨trivial, rfl, trivial, hS⟩ | exact ⟨rfl, trivial, hS⟩ | exact ⟨trivial, rfl, trivial⟩ | exact ⟨rfl, trivial⟩ | exact rfl
    · have k1 : vals 1 = .agg #[.int .i64 o, .int .i64 d, .int .i64 a, .int .i64 b, .int .i64 r, .int .i64 l, .int .i64 h, .int .i64 t] := hφ 1 (hd 1 (by decide))
      have k2 : vals 2 = .agg #[.bool on, .slice aa n cp, .int .i64 sx, .int .i64 sy] := hφ 2 (hd 2 (by decide))
      refine wpAt_of rfl rfl ?_
      simp only [frOf, Act.put]
      go_wp2_with fail
      refine (absOutS o d a b r l h t on aa g 0 n cp lo hi sx sy _ (hB3.next (HX.beh hS))).mono ?_
      rintro e W' ⟨rfl, hb⟩
      rw [hd0.out, hd1.out, hd2.out]
      go_wp2_with fail
      first | exact ⟨trivial, rfl, trivial, HX.next hb hS⟩ | exact ⟨rfl, trivial, HX.next hb hS⟩ | exact ⟨trivial, rfl, trivial⟩ | exact ⟨rfl, trivial⟩ | exact rfl
    · have k0 : vals 0 = .agg #[.bool so, .int .i64 sl, .int .i64 sh] := hφ 0 (hd 0 (by decide))
      have k3 : vals 3 = .agg #[.bool so, .int .i64 sl, .int .i64 sh] := hφ 3 (hd 3 (by decide))
      refine wpAt_of rfl rfl ?_
      simp only [frOf, Act.put]
      go_wp2_with fail
      first | exact ⟨trivial, rfl, trivial, hS⟩ | exact ⟨rfl, trivial, hS⟩ | exact ⟨trivial, rfl, trivial⟩ | exact ⟨rfl, trivial⟩ | exact rfl
  · intro L vals W hall hφ hS
    have k0 : vals 0 = .agg #[.bool so, .int .i64 sl, .int .i64 sh] := hφ 0 (by decide)
    have k1 : vals 1 = .agg #[.int .i64 o, .int .i64 d, .int .i64 a, .int .i64 b, .int .i64 r, .int .i64 l, .int .i64 h, .int .i64 t] := hφ 1 (by decide)
    have k2 : vals 2 = .agg #[.bool on, .slice aa n cp, .int .i64 sx, .int .i64 sy] := hφ 2 (by decide)
    have k3 : vals 3 = .agg #[.bool so, .int .i64 sl, .int .i64 sh] := hφ 3 (by decide)
    have k4 : vals 4 = .bool false := hφ 4 (by decide)
    simp only [frOf, Act.put, List.setIfInBounds_toArray, List.set_cons_succ, List.set_cons_zero, k0, k1, k2, k3, k4]
    clear k0 k1 k2 k3 k4 hall hφ hS0
    have H := hS.1
    have hB4 := hB3.next hS.2
    clear hS hB3 H3
    have c0 := H.cell mI (i := 0) rfl
    have c2 := H.cell mI (i := 2) rfl
    have s0 := H.cell mS (i := 0) rfl
    have s1 := H.cell mS (i := 1) rfl
    have s2 := H.cell mS (i := 2) rfl
    have s3 := H.cell mS (i := 3) rfl
    have z0 := H.cell mU (i := 0) rfl
    have z1 := H.cell mU (i := 1) rfl
    have z2 := H.cell mU (i := 2) rfl
    dsimp only at c0 c2 s0 s1 s2 s3 z0 z1 z2
    by_cases o12 : o = 12
    case neg =>
      obtain ⟨n0, n1, n2⟩ := outB_no (o := o) (aa := a) (on := on) (n := n) (lo := lo) (hi := hi) (c := sx) (d := sy) (.inl o12)
      obtain rfl : so = false := by rw [← hd0.out]; exact n0
      obtain rfl : sl = 0 := by rw [← hd1.out]; exact n1
      obtain rfl : sh = 0 := by rw [← hd2.out]; exact n2
      clear n0 n1 n2 hd0 hd1 hd2
      have ob : (o == 12) = false := by simp [o12]
      have oc : (o != 12) = true := by simp [o12]
      go_wp2_with (first | (go_at_call 10; refine (owOkA _).mono ?_; rintro e w' ⟨rfl, rfl⟩))
      go_ret
      exact ⟨rfl, H.below⟩
    case pos =>
      subst o12
      go_wp2_with fail
      refine (absOkS on aa g 0 n cp lo hi sx sy _ hB4).mono ?_
      rintro e w3 ⟨rfl, b4⟩
      have hB5 := hB4.next b4
      have H5 := H.next b4
      clear c0 c2 s0 s1 s2 s3 z0 z1 z2 H b4 hB4
      have c0 := H5.cell mI (i := 0) rfl
      have c2 := H5.cell mI (i := 2) rfl
      have s0 := H5.cell mS (i := 0) rfl
      have s1 := H5.cell mS (i := 1) rfl
      have s2 := H5.cell mS (i := 2) rfl
      have s3 := H5.cell mS (i := 3) rfl
      have z0 := H5.cell mU (i := 0) rfl
      have z1 := H5.cell mU (i := 1) rfl
      have z2 := H5.cell mU (i := 2) rfl
      dsimp only at c0 c2 s0 s1 s2 s3 z0 z1 z2
      obtain ⟨ok, hok⟩ : ∃ q, absOk on n lo hi sx sy = q := ⟨_, rfl⟩
      rw [hok]
      cases ok with
      | false =>
        obtain ⟨n0, n1, n2⟩ := outB_no (o := 12) (aa := a) (on := on) (n := n) (lo := lo) (hi := hi) (c := sx) (d := sy) (.inr (.inl hok))
        obtain rfl : so = false := by rw [← hd0.out]; exact n0
        obtain rfl : sl = 0 := by rw [← hd1.out]; exact n1
        obtain rfl : sh = 0 := by rw [← hd2.out]; exact n2
        clear n0 n1 n2 hd0 hd1 hd2
        clear hok
        go_wp2_with (first | (go_at_call 10; refine (owOkA _).mono ?_; rintro e w' ⟨rfl, rfl⟩))
        go_ret
        exact ⟨rfl, H5.below⟩
      | true =>
        cases on with
        | false =>
          obtain ⟨n0, n1, n2⟩ := outB_no (o := 12) (aa := a) (on := false) (n := n) (lo := lo) (hi := hi) (c := sx) (d := sy) (.inr (.inr (.inl rfl)))
          obtain rfl : so = false := by rw [← hd0.out]; exact n0
          obtain rfl : sl = 0 := by rw [← hd1.out]; exact n1
          obtain rfl : sh = 0 := by rw [← hd2.out]; exact n2
          clear n0 n1 n2 hd0 hd1 hd2
          clear hok
          go_wp2_with (first | (go_at_call 10; refine (owOkA _).mono ?_; rintro e w' ⟨rfl, rfl⟩))
          go_ret
          exact ⟨rfl, H5.below⟩
        | true =>
          by_cases a0' : a < 0
          case pos =>
            obtain ⟨n0, n1, n2⟩ := outB_no (o := 12) (aa := a) (on := true) (n := n) (lo := lo) (hi := hi) (c := sx) (d := sy) ((.inr (.inr (.inr (.inl a0')))))
            obtain rfl : so = false := by rw [← hd0.out]; exact n0
            obtain rfl : sl = 0 := by rw [← hd1.out]; exact n1
            obtain rfl : sh = 0 := by rw [← hd2.out]; exact n2
            clear n0 n1 n2 hd0 hd1 hd2
            clear hok
            go_wp2_with (first | (go_at_call 10; refine (owOkA _).mono ?_; rintro e w' ⟨rfl, rfl⟩))
            go_ret
            exact ⟨rfl, H5.below⟩
          case neg =>
          by_cases a4' : 4 ≤ a
          case pos =>
            obtain ⟨n0, n1, n2⟩ := outB_no (o := 12) (aa := a) (on := true) (n := n) (lo := lo) (hi := hi) (c := sx) (d := sy) ((.inr (.inr (.inr (.inr a4')))))
            obtain rfl : so = false := by rw [← hd0.out]; exact n0
            obtain rfl : sl = 0 := by rw [← hd1.out]; exact n1
            obtain rfl : sh = 0 := by rw [← hd2.out]; exact n2
            clear n0 n1 n2 hd0 hd1 hd2
            clear hok
            go_wp2_with (first | (go_at_call 10; refine (owOkA _).mono ?_; rintro e w' ⟨rfl, rfl⟩))
            go_ret
            exact ⟨rfl, H5.below⟩
          case neg =>
          obtain ⟨n0, n1, n2⟩ := outB_yes (o := 12) (aa := a) (on := true) rfl hok rfl (by omega) (by omega)
          obtain rfl : so = true := by rw [← hd0.out]; exact n0
          obtain rfl : sl = lo a.toNat := by rw [← hd1.out]; exact n1
          obtain rfl : sh = hi a.toNat := by rw [← hd2.out]; exact n2
          clear n0 n1 n2 hd0 hd1 hd2
          have hn : n = 4 := by
            unfold absOk at hok
            simp at hok
            exact hok.1
          subst hn
          obtain ⟨k, rfl⟩ := Int.eq_ofNat_of_zero_le (show 0 ≤ a by omega)
          have hk : k < 4 := by omega
          have tk : ((k : Int)).toNat = k := by omega
          obtain rfl := hB5.at_ (by omega)
          have y0 := hB5.lo k hk
          have y1 := hB5.hi k hk
          rw [Nat.zero_add] at y0 y1
          rw [tk] at z1 z2
          clear hok hB5
          go_wp2_with fail
          go_quiet (fail)
          go_wp2
          go_ret
          exact ⟨rfl, HeldL.below (HeldL.next (below_dn (Below.refl _ _) _) H5)⟩

set_option maxRecDepth 100000 in
theorem contract (H : Type) (enc : TypeId × Value → H) (W : World) (base : Nat) (args : Array Value) (ds gs : List (DataW H)) (before : List MemPlace)
    (hval : ∀ (j : Nat) t v, Try.f3.params[j]? = some t → args[j]? = some v → Value.okWide Try.prog W .any base t v)
    (hW : DataW.Whole enc Try.prog Try.f3.params.toList Rows.fnAbsOutSpec.vars false W args.toList ds gs before) :
    Calls Try.prog 3 args W fun e W' => ∃ v, e = .returned v ∧ Rows.fnAbsOutSpec.post enc Try.prog Try.f3 false true false false W args v W' := by
  have hW' := hW
  obtain ⟨p, q, hA0, hV, rfl, hfz, hnd⟩ := hW
  have hA : DataW.TrodAll enc Try.prog W 0 (fun _ => true) true Try.f3.params.toList args.toList ds p := hA0
  rw [Try.params3] at hA hval
  obtain ⟨v0, vs0, d0, ds0, p0, q0, hargs, rfl, rfl, h0, r0'⟩ := trodAll_cons hA
  obtain ⟨rfl, rfl, rfl⟩ := trodAll_nil r0'
  obtain rfl : args = #[v0] := by cases args; simp_all
  obtain ⟨rfl, rfl⟩ := trodVars_none hV
  obtain ⟨a0, len0, cap0, rfl⟩ := okWide_slice Try.underlying22 (hval 0 22 v0 rfl rfl)
  have k0 := h0
  have lt0 : ∀ x ∈ p0, x.block < W.heap.size := by obtain ⟨m, hm⟩ := k0; exact DataW.trod_lt m _ _ _ hm
  obtain ⟨z0, hz0, r0⟩ : ∃ z : Nat → Int, (∀ i, 0 ≤ z i ∧ z i ≤ 255) ∧ Bytes W a0 len0 cap0 z := by
    obtain ⟨fuel, hf⟩ := h0
    rcases open_ints Try.underlying22 Try.underlying5 (by kernel_rfl) hf with ⟨hcs, _⟩ | ⟨x, l, c, zs, hcs, _, hl, hm, hz, _, hcell, hwz⟩
    · simp [Value.cells] at hcs
      obtain ⟨rfl, rfl, rfl⟩ := hcs
      exact ⟨fun _ => 0, fun _ => by simp, .inl rfl⟩
    · simp [Value.cells] at hcs
      obtain ⟨rfl, rfl, rfl⟩ := hcs
      exact bytes_of hl (by simpa using hz) hcell hwz
  clear hA0
  refine (walk a0 len0 cap0 z0 W hz0 r0).mono fun e W' ⟨he, bel⟩ => ?_
  subst he
  exact ⟨_, rfl, _, _, _, [], _, [], hW', trodAll_mk1 (shut_bool Try.underlying4 _), (trodAll_cons_mk (Below.trod laidOut (by kernel_rfl) (of_decide_eq_true (by kernel_rfl)) k0 bel lt0) trodAll_mk0), rfl, bel.frame _, fun h => by cases h⟩

set_option maxRecDepth 100000 in
theorem lifted (os : Os) (started : os.Started) (H : Type) (enc : TypeId × Value → H) :
    ReturnsInHanded {} Try.checked os 3 .any (Rows.fnAbsOutSpec.pre6 enc Try.prog Try.f3 Rows.fnAbsOutRow.domain false) (Rows.fnAbsOutSpec.post enc Try.prog Try.f3 false true false false) := by
  refine returnsInHanded_of_change (C := Try.checked) own started (by kernel_rfl) Try.func3
    (ChangeSpec.witness6 (enc := enc) (C := Try.checked) false ⟨#[], #[.slice none 0 0], []⟩ 8 (by kernel_rfl) (by kernel_rfl) (by kernel_rfl) (by kernel_rfl)) ?_
  intro W base args ds gs before hval hW _ _
  exact contract H enc W base args ds gs before hval hW

theorem proved : Rows.FnAbsOutSaid :=
  OpenClaim.holds_of_wide 3 Try.f3 rfl rfl rfl rfl rfl rfl rfl ⟨rfl, rfl, rfl, rfl, rfl⟩ rfl rfl rfl rfl rfl (by kernel_rfl) Try.func3 (by kernel_rfl)
    (of_decide_eq_true (by kernel_rfl)) (by unfold Func.isWrapper; first | (rw [if_pos (by decide +kernel)]; kernel_rfl) | (rw [if_neg (by decide +kernel)]; exact ⟨rfl, rfl⟩))
    (fun os started H enc _ => lifted os started H enc)
#print axioms proved
end Go.Proofs.Ytehcfiihfdgokaa.fnAbsOut
