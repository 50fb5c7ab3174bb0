/- Whatever bytes are handed in, the law FnItvMeet returns true. Of more than 1048576 bytes the law itself answers true. No condition. -/
import Derived.Test.YticljcpdihaheaaDrawIn2
import Derived.Test.YticljcpdihaheaaDrawOf
import Derived.Test.YticljcpdihaheaaItvTwo
import Derived.Test.YticljcpdihaheaaItvI
import Derived.Test.YticljcpdihaheaaRegInv
import Derived.Deep.RegionHeld3
import Derived.Deep.DeepCutAuto
import Derived.WalkKit
import Derived.ProofKit
import Derived.OpenShut
import Derived.ShutString
import Derived.ChangeOld
import Derived.Below
namespace Go.Proofs.Yticljcpdihaheaa.fnItvMeet
open Go.ChangeShapes Go.WideShapes Go.ChangeAt Go.RowKit
open Go.ChangeMaps (open_string shut_string)
set_option linter.unusedVariables false

theorem own : ownKnob Try.prog.godebug = none := by kernel_rfl
theorem laidOut : laidOutB Try.prog = true := by kernel_rfl

theorem inI_is (a b c d : Int) (t : Bool) (w : World) (h : itvIn a b c d = t) :
    Calls Try.prog 18 #[.agg #[.int .i64 a, .int .i64 b], .agg #[.int .i64 c, .int .i64 d]] w fun e w' => e = .returned (.bool t) ∧ Below w.heap.size w w' := by
  subst h; exact itvInI a b c d w
theorem hasI_is (a b n : Int) (t : Bool) (w : World) (h : itvHas a b n = t) :
    Calls Try.prog 16 #[.agg #[.int .i64 a, .int .i64 b], .int .i64 n] w fun e w' => e = .returned (.bool t) ∧ Below w.heap.size w w' := by
  subst h; exact itvHasI a b n w
theorem ok_all {a b : Int} (h : itvOk a b = true) : -32768 ≤ a ∧ a ≤ 32767 ∧ -32768 ≤ b ∧ b ≤ 32767 ∧ a ≤ b := by
  obtain ⟨h1, h2, h3⟩ := itvOk_of h
  exact ⟨ok_lo h1, ok_hi h1, ok_lo h2, ok_hi h2, h3⟩
theorem ok_mk {a b : Int} (h : -32768 ≤ a ∧ b ≤ 32767 ∧ a ≤ b) : itvOk a b = true := by
  simp [itvOk, okB]; omega
theorem in_mk {a b c d : Int} (h1 : itvOk a b = true) (h2 : itvOk c d = true) (h3 : c ≤ a ∧ b ≤ d) : itvIn a b c d = true := by
  simp [itvIn, h1, h2, h3.1, h3.2]
theorem meetI_is (a b c d l h : Int) (t : Bool) (w : World) (hl : meetLo a b c d = l) (hh : meetHi a b c d = h) (ht : meetOk a b c d = t) :
    Calls Try.prog 30 #[.agg #[.int .i64 a, .int .i64 b], .agg #[.int .i64 c, .int .i64 d]] w fun e w' => e = .returned (.tuple #[.agg #[.int .i64 l, .int .i64 h], .bool t]) ∧ Below w.heap.size w w' := by
  subst hl hh ht; exact meetI a b c d w
theorem meetS_is (a b c d l h : Int) (t : Bool) (w : World) (hl : meetLo a b c d = l) (hh : meetHi a b c d = h) (ht : meetOk a b c d = t) :
    Calls Try.prog 31 #[.agg #[.int .i64 a, .int .i64 b], .agg #[.int .i64 c, .int .i64 d]] w fun e w' => e = .returned (.tuple #[.agg #[.int .i64 l, .int .i64 h], .bool t]) ∧ Below w.heap.size w w' := by
  subst hl hh ht; exact meetS a b c d w
theorem mx0 {x y m : Int} (h : max x y = m) : Is (.int .i64 m) (.int .i64 (max x y)) := by subst h; rfl
theorem mx1 {x y m : Int} (h : max x y = m) (k : x < y) : Is (.int .i64 m) (.int .i64 y) := by
  have : y = m := by omega
  subst this; rfl
theorem mx2 {x y m : Int} (h : max x y = m) (k : ¬ x < y) : Is (.int .i64 m) (.int .i64 x) := by
  have : x = m := by omega
  subst this; rfl
theorem mx3 {x y m : Int} (h : max x y = m) (k : y ≤ x) : Is (.int .i64 m) (.int .i64 x) := by
  have : x = m := by omega
  subst this; rfl
theorem mx4 {x y m : Int} (h : max x y = m) (k : x ≤ y) : Is (.int .i64 m) (.int .i64 y) := by
  have : y = m := by omega
  subst this; rfl
theorem mx5 {x y m : Int} (h : max x y = m) (k : y < x) : Is (.int .i64 m) (.int .i64 x) := by
  have : x = m := by omega
  subst this; rfl
theorem mx6 {x y m : Int} (h : max x y = m) (k : ¬ y < x) : Is (.int .i64 m) (.int .i64 y) := by
  have : y = m := by omega
  subst this; rfl
theorem mx7 {x y m : Int} (h : max x y = m) (k : ¬ x ≤ y) : Is (.int .i64 m) (.int .i64 x) := by
  have : x = m := by omega
  subst this; rfl
theorem mx8 {x y m : Int} (h : max x y = m) (k : ¬ y ≤ x) : Is (.int .i64 m) (.int .i64 y) := by
  have : y = m := by omega
  subst this; rfl
theorem meet_no {a b c d : Int} (h1 : itvOk a b = true) (h2 : itvOk c d = true) (h : meetOk a b c d = false) : b < c ∨ d < a := by
  have k1 := ok_all h1
  have k2 := ok_all h2
  simp [meetOk, two, h1, h2] at h
  omega
theorem meet_yes {a b c d : Int} (h1 : itvOk a b = true) (h2 : itvOk c d = true) (h : meetOk a b c d = true) : meetLo a b c d = max a c ∧ meetHi a b c d = min b d ∧ max a c ≤ min b d := by
  have h' := h
  simp [meetOk, two, h1, h2] at h'
  simp [meetLo, meetHi, h]
  omega
theorem has_is {a b n : Int} (h : itvOk a b = true) : itvHas a b n = (decide (a ≤ n) && decide (n ≤ b)) := by simp [itvHas, h]
theorem has_meet {a b c d n : Int} (h1 : itvOk a b = true) (h2 : itvOk c d = true) (h3 : itvOk (max a c) (min b d) = true) : itvHas (max a c) (min b d) n = (itvHas a b n && itvHas c d n) := by
  rw [has_is h1, has_is h2, has_is h3, Bool.eq_iff_iff]
  simp
  omega
theorem drawMeet (a : Option Addr) (len cap : Nat) (z : Nat → Int) (w : World) (hz : ∀ i, 0 ≤ z i ∧ z i ≤ 255) (hl : len ≤ 1048576) (h : Bytes w a len cap z) :
    Calls Try.prog 28 #[.slice a len cap] w (DTwo w) := by
  have b0 : Below w.heap.size w ((w.alloc (.cells #[.int .i64 0, .int .i64 0] 24)).alloc (.cells #[.int .i64 0, .int .i64 0] 24)) := by
    repeat (first | exact Below.refl _ _ | refine Below.alloc ?_ (by simp; try omega) _)
  go_enter Try.func28, Try.ntmps28
  go_wp2_with fail
  refine (drawIn a len cap z _ hz hl (h.kept b0)).mono ?_
  rintro e w1 ⟨x0, x1, y0, y1, q0, q1, q2, q3, rfl, b1⟩
  have b2 := below_tr b0 b1
  obtain ⟨hc, hf⟩ := bcell b1
  obtain ⟨e0, e1⟩ := own2 (W := w1) (B := w.heap.size) (u := .int .i64 0) (v := .int .i64 0) (by rw [hc w.heap.size 0 (by simp; try omega)]; simp [go_sem]) (by rw [hc w.heap.size 1 (by simp; try omega)]; simp [go_sem])
  obtain ⟨e2, e3⟩ := own4 (W := w1) (B := w.heap.size) (C := w.heap.size + 1) (u := .int .i64 0) (v := .int .i64 0) (by omega) (by rw [hc (w.heap.size + 1) 0 (by simp)]; simp [go_sem]) (by rw [hc (w.heap.size + 1) 1 (by simp)]; simp [go_sem])
  go_wp2_with fail
  refine bodyPost_ret (v := .tuple #[.agg #[.int .i64 x0, .int .i64 x1], .agg #[.int .i64 y0, .int .i64 y1]]) (by simp [results, Try.results28, go_sem, e0, e1, e2, e3]) rfl ⟨x0, x1, y0, y1, q0, q1, q2, q3, rfl, ?_⟩
  repeat (first | exact b2 | refine Below.setCell ?_ (by simp; try omega) _)
theorem owOkT (w : World) : Calls Try.prog 13 #[] w fun e w' => e = .returned (.bool true) ∧ w' = w := by
  go_enter Try.func13, Try.ntmps13
  go_wp2_with (go_at_call 47; refine (okI _ _).mono ?_; rintro e w' ⟨rfl, rfl⟩)
  go_ret
  exact ⟨rfl, rfl⟩

set_option maxRecDepth 10000 in
set_option maxHeartbeats 40000000 in
theorem walk (a0 : Option Addr) (len0 cap0 : Nat) (z0 : Nat → Int) (a1 : Option Addr) (len1 cap1 : Nat) (z1 : Nat → Int) (w : World) (hz0 : ∀ i, 0 ≤ z0 i ∧ z0 i ≤ 255) (r0 : Bytes w a0 len0 cap0 z0) (hz1 : ∀ i, 0 ≤ z1 i ∧ z1 i ≤ 255) (r1 : Bytes w a1 len1 cap1 z1) :
    Calls Try.prog 7 #[.slice a0 len0 cap0, .slice a1 len1 cap1] w fun e w' => e = .returned (.bool true) ∧ Below w.heap.size w w' := by
  by_cases hl0 : len0 ≤ 1048576
  case neg =>
    have hi : (1048576 : Int) < (len0 : Int) := by omega
    go_enter Try.func7, Try.ntmps7
    go_wp2_with fail
    go_ret
    exact ⟨rfl, Below.refl _ _⟩
  have hi0 : ¬ (1048576 : Int) < (len0 : Int) := by omega
  by_cases hl1 : len1 ≤ 1048576
  case neg =>
    have hi : (1048576 : Int) < (len1 : Int) := by omega
    go_enter Try.func7, Try.ntmps7
    go_wp2_with fail
    go_ret
    exact ⟨rfl, Below.refl _ _⟩
  have hi1 : ¬ (1048576 : Int) < (len1 : Int) := by omega
  go_enter Try.func7, Try.ntmps7
  go_wp2_with fail
  refine (drawMeet a0 len0 cap0 z0 _ hz0 hl0 r0).mono ?_
  rintro e w1 ⟨x0, x1, y0, y1, hx0, hx1, hy0, hy1, rfl, b1⟩
  have H3 : HeldL w [(w1.heap.size + 1, [Value.int .i64 y0, .int .i64 y1]), (w1.heap.size, [Value.int .i64 x0, .int .i64 x1])] ((w1.alloc (.cells #[.int .i64 x0, .int .i64 x1] 24)).alloc (.cells #[.int .i64 y0, .int .i64 y1] 24)) := by
    have e : w1.heap.size + 1 = (w1.alloc (.cells #[.int .i64 x0, .int .i64 x1] 24)).heap.size := by simp
    rw [e]
    exact HeldL.new (HeldL.new ((HeldL.nil w).next b1))
  have r1' := r1.kept H3.below
  clear r0 r1
  go_wp2_with fail
  refine (drawHas a1 len1 cap1 z1 _ hz1 hl1 r1').mono ?_
  rintro e w2 ⟨u0, u1, n, hu0, hu1, hn, rfl, b2⟩
  have H5 := HeldL.new (t := 24) (x := .int .i64 u0) (y := .int .i64 u1) (H3.next b2)
  have a0' := H5.cell (e := (w1.heap.size, [Value.int .i64 x0, .int .i64 x1])) (by simp) (i := 0) rfl
  have a1' := H5.cell (e := (w1.heap.size, [Value.int .i64 x0, .int .i64 x1])) (by simp) (i := 1) rfl
  have a2' := H5.cell (e := (w1.heap.size + 1, [Value.int .i64 y0, .int .i64 y1])) (by simp) (i := 0) rfl
  have a3' := H5.cell (e := (w1.heap.size + 1, [Value.int .i64 y0, .int .i64 y1])) (by simp) (i := 1) rfl
  dsimp only at a0' a1' a2' a3'
  clear r1' H3 b2
  obtain ⟨ml, hl0'⟩ : ∃ l, meetLo x0 x1 y0 y1 = l := ⟨_, rfl⟩
  obtain ⟨mh, hh0'⟩ : ∃ l, meetHi x0 x1 y0 y1 = l := ⟨_, rfl⟩
  obtain ⟨mo, ho0'⟩ : ∃ l, meetOk x0 x1 y0 y1 = l := ⟨_, rfl⟩
  have hml : Hid (meetLo x0 x1 y0 y1 = ml) := hl0'
  have hmh : Hid (meetHi x0 x1 y0 y1 = mh) := hh0'
  have hmo : Hid (meetOk x0 x1 y0 y1 = mo) := ho0'
  clear hl0' hh0' ho0'
  go_wp2_with fail
  refine (meetI_is _ _ _ _ ml mh mo _ hml.out hmh.out hmo.out).mono ?_
  rintro e w3 ⟨rfl, b3⟩
  have H6 := HeldL.new (t := 24) (x := .int .i64 ml) (y := .int .i64 mh) (H5.next b3)
  clear a0' a1' a2' a3' b3 H5
  have a0' := H6.cell (e := (w1.heap.size, [Value.int .i64 x0, .int .i64 x1])) (by simp) (i := 0) rfl
  have a1' := H6.cell (e := (w1.heap.size, [Value.int .i64 x0, .int .i64 x1])) (by simp) (i := 1) rfl
  have a2' := H6.cell (e := (w1.heap.size + 1, [Value.int .i64 y0, .int .i64 y1])) (by simp) (i := 0) rfl
  have a3' := H6.cell (e := (w1.heap.size + 1, [Value.int .i64 y0, .int .i64 y1])) (by simp) (i := 1) rfl
  dsimp only at a0' a1' a2' a3'
  go_wp2_with fail
  refine (meetS_is _ _ _ _ ml mh mo _ hml.out hmh.out hmo.out).mono ?_
  rintro e w4 ⟨rfl, b4⟩
  have H7 := HeldL.new (t := 24) (x := .int .i64 ml) (y := .int .i64 mh) (H6.next b4)
  clear a0' a1' a2' a3' b4 H6
  obtain ⟨Lb, hLb⟩ : ∃ Lb, Lb = [(w4.heap.size, [Value.int .i64 ml, .int .i64 mh]), (w3.heap.size, [Value.int .i64 ml, .int .i64 mh]), (w2.heap.size, [Value.int .i64 u0, .int .i64 u1]), (w1.heap.size + 1, [Value.int .i64 y0, .int .i64 y1]), (w1.heap.size, [Value.int .i64 x0, .int .i64 x1])] := ⟨_, rfl⟩
  have mA : (w1.heap.size, [Value.int .i64 x0, .int .i64 x1]) ∈ Lb := by rw [hLb]; simp
  have mB : (w1.heap.size + 1, [Value.int .i64 y0, .int .i64 y1]) ∈ Lb := by rw [hLb]; simp
  have mX : (w3.heap.size, [Value.int .i64 ml, .int .i64 mh]) ∈ Lb := by rw [hLb]; simp
  have mW : (w4.heap.size, [Value.int .i64 ml, .int .i64 mh]) ∈ Lb := by rw [hLb]; simp
  rw [← hLb] at H7
  clear hLb
  have a0' := H7.cell mA (i := 0) rfl
  have a1' := H7.cell mA (i := 1) rfl
  have a4' := H7.cell mX (i := 0) rfl
  have a5' := H7.cell mX (i := 1) rfl
  have a6' := H7.cell mW (i := 0) rfl
  have a7' := H7.cell mW (i := 1) rfl
  dsimp only at a0' a1' a4' a5' a6' a7'
  go_wp2_with fail
  refine (itvOkS _ _ _).mono ?_
  rintro e w5 ⟨rfl, b5⟩
  have H8 := H7.next b5
  clear a0' a1' a4' a5' a6' a7' b5 H7
  cases oka : itvOk x0 x1
  · obtain rfl : mo = false := by rw [← hmo.out]; simp [meetOk, two, oka]
    go_wp2_with (first | (go_at_call 13; refine (owOkT _).mono ?_; rintro e w' ⟨rfl, rfl⟩))
    go_ret
    exact ⟨rfl, H8.below⟩
  have a2' := H8.cell mB (i := 0) rfl
  have a3' := H8.cell mB (i := 1) rfl
  dsimp only at a2' a3'
  go_wp2_with fail
  refine (itvOkS _ _ _).mono ?_
  rintro e w6 ⟨rfl, b6⟩
  have H9 := H8.next b6
  clear a2' a3' b6 H8
  cases okb : itvOk y0 y1
  · obtain rfl : mo = false := by rw [← hmo.out]; simp [meetOk, two, okb]
    go_wp2_with (first | (go_at_call 13; refine (owOkT _).mono ?_; rintro e w' ⟨rfl, rfl⟩))
    go_ret
    exact ⟨rfl, H9.below⟩
  have a0' := H9.cell mA (i := 0) rfl
  have a1' := H9.cell mA (i := 1) rfl
  have a2' := H9.cell mB (i := 0) rfl
  have a3' := H9.cell mB (i := 1) rfl
  dsimp only at a0' a1' a2' a3'
  cases mo
  · have hno := meet_no oka okb hmo.out
    by_cases e1 : x1 < y0
    · clear hno
      go_wp2_with fail
      go_ret
      exact ⟨rfl, H9.below⟩
    · have e2 : y1 < x0 := by omega
      clear hno
      go_wp2_with fail
      go_ret
      exact ⟨rfl, H9.below⟩
  obtain ⟨q1, q2, q3⟩ := meet_yes oka okb hmo.out
  rw [hml.out] at q1
  rw [hmh.out] at q2
  have okm : itvOk ml mh = true := by
    have k1 := ok_all oka
    have k2 := ok_all okb
    exact ok_mk (by omega)
  have hhm := has_meet (n := n) oka okb (by rw [← q1, ← q2]; exact okm)
  rw [← q1, ← q2] at hhm
  have iA : Hid (itvIn ml mh x0 x1 = true) := in_mk okm oka (by omega)
  have iB : Hid (itvIn ml mh y0 y1 = true) := in_mk okm okb (by omega)
  have hM : Hid (itvHas ml mh ml = true) := (has_is okm).trans (by have := ok_all okm; simp; omega)
  have hmx : Hid (max x0 y0 = ml) := q1.symm
  have hS0 : HeldL w Lb w6.drew := H9.drew
  clear q1 q2 q3 hml hmh hmo okm a0' a1' a2' a3' oka okb H9 hu0 hu1 hx0 hx1 hy0 hy1 hn hz0 hz1 hi0 hi1 hl0 hl1 b1
  cases ha0 : itvHas x0 x1 n
  · rw [ha0, Bool.false_and] at hhm
    have hA : Hid (itvHas x0 x1 n = false) := ha0
    have hX : Hid (itvHas ml mh n = false) := hhm
    clear ha0 hhm
    go_wp2_with fail
    refine region_inv3 [(0, 78), (1, 79), (2, 80), (3, 81), (4, 82), (5, 83), (6, 84), (7, 85), (8, 86), (9, 87), (10, 88), (11, 89), (12, 90), (13, 91), (14, 92), (15, 93), (16, 94), (17, 95), (18, 96), (19, 97), (20, 98), (21, 99), (22, 100), (23, 101), (24, 102), (25, 103), (26, 104), (27, 105), (28, 106), (29, 107), (30, 108), (31, 4)]
      (fun j v _ => match j with
        | 0 => Is (.agg #[.int .i64 ml, .int .i64 mh]) v
        | 1 => Is (.agg #[.int .i64 x0, .int .i64 x1]) v
        | 2 => Is (.bool true) v
        | 3 => Is (.bool true) v
        | 4 => Is (.agg #[.int .i64 ml, .int .i64 mh]) v
        | 5 => Is (.agg #[.int .i64 y0, .int .i64 y1]) v
        | 6 => Is (.bool true) v
        | 7 => Is (.bool true) v
        | 8 => Is (.bool true) v
        | 9 => Is (.agg #[.int .i64 ml, .int .i64 mh]) v
        | 10 => Is (.int .i64 n) v
        | 11 => Is (.bool false) v
        | 12 => Is (.agg #[.int .i64 x0, .int .i64 x1]) v
        | 13 => Is (.int .i64 n) v
        | 14 => Is (.bool false) v
        | 15 => Is (.bool false) v
        | 16 => Is (undef) v
        | 17 => Is (undef) v
        | 18 => Is (undef) v
        | 19 => Is (.bool false) v
        | 20 => Is (.bool true) v
        | 21 => Is (.bool true) v
        | 22 => Is (.bool true) v
        | 23 => Is (.agg #[.int .i64 ml, .int .i64 mh]) v
        | 24 => Is (.pointer (some ⟨w1.heap.size, 0, none⟩)) v
        | 25 => Is (.int .i64 x0) v
        | 26 => Is (.pointer (some ⟨w1.heap.size + 1, 0, none⟩)) v
        | 27 => Is (.int .i64 y0) v
        | 28 => Is (.int .i64 ml) v
        | 29 => Is (.bool true) v
        | 30 => Is (.bool true) v
        | 31 => Is (.bool true) v
        | _ => True)
      (fun _ W => HeldL w Lb W) TT
      (by kernel_rfl) (by kernel_rfl) (by kernel_rfl) (by kernel_rfl) (by kernel_rfl) rfl hS0 (fun i j v W W' _ h _ => h) ?_ ?_
    · intro i L vals W hi' hφ hS hL hd
      have hi2 : i < 32 := hi'
      clear hi'
      rcases (show i = 0 ∨ i = 1 ∨ i = 2 ∨ i = 3 ∨ i = 4 ∨ i = 5 ∨ i = 6 ∨ i = 7 ∨ i = 8 ∨ i = 9 ∨ i = 10 ∨ i = 11 ∨ i = 12 ∨ i = 13 ∨ i = 14 ∨ i = 15 ∨ i = 16 ∨ i = 17 ∨ i = 18 ∨ i = 19 ∨ i = 20 ∨ i = 21 ∨ i = 22 ∨ i = 23 ∨ i = 24 ∨ i = 25 ∨ i = 26 ∨ i = 27 ∨ i = 28 ∨ i = 29 ∨ i = 30 ∨ i = 31 by omega) with rfl | rfl | rfl | rfl | rfl | rfl | rfl | rfl | rfl | rfl | rfl | rfl | rfl | rfl | rfl | rfl | rfl | rfl | rfl | rfl | rfl | rfl | rfl | rfl | rfl | rfl | rfl | rfl | rfl | rfl | rfl | rfl
      · have c0 : W.cell? ⟨w3.heap.size, 0, none⟩ = some (.int .i64 ml) := HeldL.cell hS mX (i := 0) rfl
        have c1 : W.cell? ⟨w3.heap.size, 1, none⟩ = some (.int .i64 mh) := HeldL.cell hS mX (i := 1) rfl
        refine wpAt_of rfl rfl ?_
        simp only [frOf, Act.put]
        go_wp2_with fail
        first | exact ⟨trivial, rfl, trivial, hS⟩ | exact ⟨rfl, trivial, hS⟩
      · have c0 : W.cell? ⟨w1.heap.size, 0, none⟩ = some (.int .i64 x0) := HeldL.cell hS mA (i := 0) rfl
        have c1 : W.cell? ⟨w1.heap.size, 1, none⟩ = some (.int .i64 x1) := HeldL.cell hS mA (i := 1) rfl
        refine wpAt_of rfl rfl ?_
        simp only [frOf, Act.put]
        go_wp2_with fail
        first | exact ⟨trivial, rfl, trivial, hS⟩ | exact ⟨rfl, trivial, hS⟩
      · have k0 : vals 0 = .agg #[.int .i64 ml, .int .i64 mh] := hφ 0 (hd 0 (by decide))
        have k1 : vals 1 = .agg #[.int .i64 x0, .int .i64 x1] := hφ 1 (hd 1 (by decide))
        refine wpAt_of rfl rfl ?_
        simp only [frOf, Act.put]
        go_wp2_with fail
        refine (inI_is _ _ _ _ true _ (by first | exact iA.out | exact iB.out)).mono ?_
        rintro e W' ⟨rfl, hb⟩
        go_wp2_with fail
        first | exact ⟨trivial, rfl, trivial, HeldL.next hb hS⟩ | exact ⟨rfl, trivial, HeldL.next hb hS⟩
      · have k2 : vals 2 = .bool true := hφ 2 (hd 2 (by decide))
        refine wpAt_of rfl rfl ?_
        simp only [frOf, Act.put]
        go_wp2_with fail
        first | exact ⟨trivial, rfl, trivial, hS⟩ | exact ⟨rfl, trivial, hS⟩
      · have k3 : vals 3 = .bool true := hφ 3 (hd 3 (by decide))
        have c0 : W.cell? ⟨w3.heap.size, 0, none⟩ = some (.int .i64 ml) := HeldL.cell hS mX (i := 0) rfl
        have c1 : W.cell? ⟨w3.heap.size, 1, none⟩ = some (.int .i64 mh) := HeldL.cell hS mX (i := 1) rfl
        simp only [wpAt, List.getElem?_toArray, List.getElem?_cons_succ, List.getElem?_cons_zero, slotOf, frOf, Act.put]
        go_wp2_with fail
        first | exact ⟨trivial, rfl, trivial, hS⟩ | exact ⟨rfl, trivial, hS⟩
      · have k3 : vals 3 = .bool true := hφ 3 (hd 3 (by decide))
        have c0 : W.cell? ⟨w1.heap.size + 1, 0, none⟩ = some (.int .i64 y0) := HeldL.cell hS mB (i := 0) rfl
        have c1 : W.cell? ⟨w1.heap.size + 1, 1, none⟩ = some (.int .i64 y1) := HeldL.cell hS mB (i := 1) rfl
        simp only [wpAt, List.getElem?_toArray, List.getElem?_cons_succ, List.getElem?_cons_zero, slotOf, frOf, Act.put]
        go_wp2_with fail
        first | exact ⟨trivial, rfl, trivial, hS⟩ | exact ⟨rfl, trivial, hS⟩
      · have k3 : vals 3 = .bool true := hφ 3 (hd 3 (by decide))
        have k4 : vals 4 = .agg #[.int .i64 ml, .int .i64 mh] := hφ 4 (hd 4 (by decide))
        have k5 : vals 5 = .agg #[.int .i64 y0, .int .i64 y1] := hφ 5 (hd 5 (by decide))
        simp only [wpAt, List.getElem?_toArray, List.getElem?_cons_succ, List.getElem?_cons_zero, slotOf, frOf, Act.put]
        go_wp2_with fail
        refine (inI_is _ _ _ _ true _ (by first | exact iA.out | exact iB.out)).mono ?_
        rintro e W' ⟨rfl, hb⟩
        go_wp2_with fail
        first | exact ⟨trivial, rfl, trivial, HeldL.next hb hS⟩ | exact ⟨rfl, trivial, HeldL.next hb hS⟩
      · have k3 : vals 3 = .bool true := hφ 3 (hd 3 (by decide))
        have k6 : vals 6 = .bool true := hφ 6 (hd 6 (by decide))
        refine wpAt_of rfl rfl ?_
        simp only [frOf, Act.put]
        go_wp2_with fail
        first | exact ⟨trivial, rfl, trivial, hS⟩ | exact ⟨rfl, trivial, hS⟩
      · have k7 : vals 7 = .bool true := hφ 7 (hd 7 (by decide))
        refine wpAt_of rfl rfl ?_
        simp only [frOf, Act.put]
        go_wp2_with fail
        first | exact ⟨trivial, rfl, trivial, hS⟩ | exact ⟨rfl, trivial, hS⟩
      · have k8 : vals 8 = .bool true := hφ 8 (hd 8 (by decide))
        have c0 : W.cell? ⟨w3.heap.size, 0, none⟩ = some (.int .i64 ml) := HeldL.cell hS mX (i := 0) rfl
        have c1 : W.cell? ⟨w3.heap.size, 1, none⟩ = some (.int .i64 mh) := HeldL.cell hS mX (i := 1) rfl
        simp only [wpAt, List.getElem?_toArray, List.getElem?_cons_succ, List.getElem?_cons_zero, slotOf, frOf, Act.put]
        go_wp2_with fail
        first | exact ⟨trivial, rfl, trivial, hS⟩ | exact ⟨rfl, trivial, hS⟩
      · have k8 : vals 8 = .bool true := hφ 8 (hd 8 (by decide))
        simp only [wpAt, List.getElem?_toArray, List.getElem?_cons_succ, List.getElem?_cons_zero, slotOf, frOf, Act.put]
        go_wp2_with fail
        first | exact ⟨trivial, rfl, trivial, hS⟩ | exact ⟨rfl, trivial, hS⟩
      · have k8 : vals 8 = .bool true := hφ 8 (hd 8 (by decide))
        have k9 : vals 9 = .agg #[.int .i64 ml, .int .i64 mh] := hφ 9 (hd 9 (by decide))
        have k10 : vals 10 = .int .i64 n := hφ 10 (hd 10 (by decide))
        simp only [wpAt, List.getElem?_toArray, List.getElem?_cons_succ, List.getElem?_cons_zero, slotOf, frOf, Act.put]
        go_wp2_with fail
        refine (hasI_is _ _ _ _ _ (by first | exact hX.out | exact hA.out | exact hB.out | exact hM.out)).mono ?_
        rintro e W' ⟨rfl, hb⟩
        go_wp2_with fail
        first | exact ⟨trivial, rfl, trivial, HeldL.next hb hS⟩ | exact ⟨rfl, trivial, HeldL.next hb hS⟩
      · have k8 : vals 8 = .bool true := hφ 8 (hd 8 (by decide))
        have c0 : W.cell? ⟨w1.heap.size, 0, none⟩ = some (.int .i64 x0) := HeldL.cell hS mA (i := 0) rfl
        have c1 : W.cell? ⟨w1.heap.size, 1, none⟩ = some (.int .i64 x1) := HeldL.cell hS mA (i := 1) rfl
        simp only [wpAt, List.getElem?_toArray, List.getElem?_cons_succ, List.getElem?_cons_zero, slotOf, frOf, Act.put]
        go_wp2_with fail
        first | exact ⟨trivial, rfl, trivial, hS⟩ | exact ⟨rfl, trivial, hS⟩
      · have k8 : vals 8 = .bool true := hφ 8 (hd 8 (by decide))
        simp only [wpAt, List.getElem?_toArray, List.getElem?_cons_succ, List.getElem?_cons_zero, slotOf, frOf, Act.put]
        go_wp2_with fail
        first | exact ⟨trivial, rfl, trivial, hS⟩ | exact ⟨rfl, trivial, hS⟩
      · have k8 : vals 8 = .bool true := hφ 8 (hd 8 (by decide))
        have k12 : vals 12 = .agg #[.int .i64 x0, .int .i64 x1] := hφ 12 (hd 12 (by decide))
        have k13 : vals 13 = .int .i64 n := hφ 13 (hd 13 (by decide))
        simp only [wpAt, List.getElem?_toArray, List.getElem?_cons_succ, List.getElem?_cons_zero, slotOf, frOf, Act.put]
        go_wp2_with fail
        refine (hasI_is _ _ _ _ _ (by first | exact hX.out | exact hA.out | exact hB.out | exact hM.out)).mono ?_
        rintro e W' ⟨rfl, hb⟩
        go_wp2_with fail
        first | exact ⟨trivial, rfl, trivial, HeldL.next hb hS⟩ | exact ⟨rfl, trivial, HeldL.next hb hS⟩
      · have k8 : vals 8 = .bool true := hφ 8 (hd 8 (by decide))
        have k14 : vals 14 = .bool false := hφ 14 (hd 14 (by decide))
        simp only [wpAt, List.getElem?_toArray, List.getElem?_cons_succ, List.getElem?_cons_zero, slotOf, frOf, Act.put]
        go_wp2_with fail
        first | exact ⟨trivial, rfl, trivial, hS⟩ | exact ⟨rfl, trivial, hS⟩
      · have k15 : vals 15 = .bool false := hφ 15 (hd 15 (by decide))
        have c0 : W.cell? ⟨w1.heap.size + 1, 0, none⟩ = some (.int .i64 y0) := HeldL.cell hS mB (i := 0) rfl
        have c1 : W.cell? ⟨w1.heap.size + 1, 1, none⟩ = some (.int .i64 y1) := HeldL.cell hS mB (i := 1) rfl
        simp only [wpAt, List.getElem?_toArray, List.getElem?_cons_succ, List.getElem?_cons_zero, slotOf, frOf, Act.put]
        go_wp2_with fail
        first | exact ⟨trivial, rfl, trivial, hS⟩ | exact ⟨rfl, trivial, hS⟩
      · have k15 : vals 15 = .bool false := hφ 15 (hd 15 (by decide))
        simp only [wpAt, List.getElem?_toArray, List.getElem?_cons_succ, List.getElem?_cons_zero, slotOf, frOf, Act.put]
        go_wp2_with fail
        first | exact ⟨trivial, rfl, trivial, hS⟩ | exact ⟨rfl, trivial, hS⟩
      · have k15 : vals 15 = .bool false := hφ 15 (hd 15 (by decide))
        have k16 : vals 16 = undef := hφ 16 (hd 16 (by decide))
        have k17 : vals 17 = undef := hφ 17 (hd 17 (by decide))
        simp only [wpAt, List.getElem?_toArray, List.getElem?_cons_succ, List.getElem?_cons_zero, slotOf, frOf, Act.put]
        go_wp2_with fail
        first | exact ⟨trivial, rfl, trivial, hS⟩ | exact ⟨rfl, trivial, hS⟩
      · have k8 : vals 8 = .bool true := hφ 8 (hd 8 (by decide))
        have k15 : vals 15 = .bool false := hφ 15 (hd 15 (by decide))
        have k18 : vals 18 = undef := hφ 18 (hd 18 (by decide))
        simp only [wpAt, List.getElem?_toArray, List.getElem?_cons_succ, List.getElem?_cons_zero, slotOf, frOf, Act.put]
        go_wp2_with fail
        first | exact ⟨trivial, rfl, trivial, hS⟩ | exact ⟨rfl, trivial, hS⟩
      · have k8 : vals 8 = .bool true := hφ 8 (hd 8 (by decide))
        have k11 : vals 11 = .bool false := hφ 11 (hd 11 (by decide))
        have k19 : vals 19 = .bool false := hφ 19 (hd 19 (by decide))
        simp only [wpAt, List.getElem?_toArray, List.getElem?_cons_succ, List.getElem?_cons_zero, slotOf, frOf, Act.put]
        go_wp2_with fail
        first | exact ⟨trivial, rfl, trivial, hS⟩ | exact ⟨rfl, trivial, hS⟩
      · have k8 : vals 8 = .bool true := hφ 8 (hd 8 (by decide))
        have k20 : vals 20 = .bool true := hφ 20 (hd 20 (by decide))
        refine wpAt_of rfl rfl ?_
        simp only [frOf, Act.put]
        go_wp2_with fail
        first | exact ⟨trivial, rfl, trivial, hS⟩ | exact ⟨rfl, trivial, hS⟩
      · have k21 : vals 21 = .bool true := hφ 21 (hd 21 (by decide))
        refine wpAt_of rfl rfl ?_
        simp only [frOf, Act.put]
        go_wp2_with fail
        first | exact ⟨trivial, rfl, trivial, hS⟩ | exact ⟨rfl, trivial, hS⟩
      · have k22 : vals 22 = .bool true := hφ 22 (hd 22 (by decide))
        have c0 : W.cell? ⟨w3.heap.size, 0, none⟩ = some (.int .i64 ml) := HeldL.cell hS mX (i := 0) rfl
        have c1 : W.cell? ⟨w3.heap.size, 1, none⟩ = some (.int .i64 mh) := HeldL.cell hS mX (i := 1) rfl
        simp only [wpAt, List.getElem?_toArray, List.getElem?_cons_succ, List.getElem?_cons_zero, slotOf, frOf, Act.put]
        go_wp2_with fail
        first | exact ⟨trivial, rfl, trivial, hS⟩ | exact ⟨rfl, trivial, hS⟩
      · have k22 : vals 22 = .bool true := hφ 22 (hd 22 (by decide))
        simp only [wpAt, List.getElem?_toArray, List.getElem?_cons_succ, List.getElem?_cons_zero, slotOf, frOf, Act.put]
        go_wp2_with fail
        first | exact ⟨trivial, rfl, trivial, hS⟩ | exact ⟨rfl, trivial, hS⟩
      · have k22 : vals 22 = .bool true := hφ 22 (hd 22 (by decide))
        have k24 : vals 24 = .pointer (some ⟨w1.heap.size, 0, none⟩) := hφ 24 (hd 24 (by decide))
        have c0 : W.cell? ⟨w1.heap.size, 0, none⟩ = some (.int .i64 x0) := HeldL.cell hS mA (i := 0) rfl
        simp only [wpAt, List.getElem?_toArray, List.getElem?_cons_succ, List.getElem?_cons_zero, slotOf, frOf, Act.put]
        go_wp2_with fail
        first | exact ⟨trivial, rfl, trivial, hS⟩ | exact ⟨rfl, trivial, hS⟩
      · have k22 : vals 22 = .bool true := hφ 22 (hd 22 (by decide))
        simp only [wpAt, List.getElem?_toArray, List.getElem?_cons_succ, List.getElem?_cons_zero, slotOf, frOf, Act.put]
        go_wp2_with fail
        first | exact ⟨trivial, rfl, trivial, hS⟩ | exact ⟨rfl, trivial, hS⟩
      · have k22 : vals 22 = .bool true := hφ 22 (hd 22 (by decide))
        have k26 : vals 26 = .pointer (some ⟨w1.heap.size + 1, 0, none⟩) := hφ 26 (hd 26 (by decide))
        have c1 : W.cell? ⟨w1.heap.size + 1, 0, none⟩ = some (.int .i64 y0) := HeldL.cell hS mB (i := 0) rfl
        simp only [wpAt, List.getElem?_toArray, List.getElem?_cons_succ, List.getElem?_cons_zero, slotOf, frOf, Act.put]
        go_wp2_with fail
        first | exact ⟨trivial, rfl, trivial, hS⟩ | exact ⟨rfl, trivial, hS⟩
      · have k22 : vals 22 = .bool true := hφ 22 (hd 22 (by decide))
        have k25 : vals 25 = .int .i64 x0 := hφ 25 (hd 25 (by decide))
        have k27 : vals 27 = .int .i64 y0 := hφ 27 (hd 27 (by decide))
        simp only [wpAt, List.getElem?_toArray, List.getElem?_cons_succ, List.getElem?_cons_zero, slotOf, frOf, Act.put]
        go_wp2_with fail
        all_goals (first | exact ⟨mx1 hmx.out (by assumption), trivial⟩ | exact ⟨mx2 hmx.out (by assumption), trivial⟩ | exact ⟨mx3 hmx.out (by assumption), trivial⟩ | exact ⟨mx4 hmx.out (by assumption), trivial⟩ | exact ⟨mx5 hmx.out (by assumption), trivial⟩ | exact ⟨mx6 hmx.out (by assumption), trivial⟩ | exact ⟨mx7 hmx.out (by assumption), trivial⟩ | exact ⟨mx8 hmx.out (by assumption), trivial⟩)
      · have k22 : vals 22 = .bool true := hφ 22 (hd 22 (by decide))
        have k23 : vals 23 = .agg #[.int .i64 ml, .int .i64 mh] := hφ 23 (hd 23 (by decide))
        have k28 : vals 28 = .int .i64 ml := hφ 28 (hd 28 (by decide))
        simp only [wpAt, List.getElem?_toArray, List.getElem?_cons_succ, List.getElem?_cons_zero, slotOf, frOf, Act.put]
        go_wp2_with fail
        refine (hasI_is _ _ _ _ _ (by first | exact hX.out | exact hA.out | exact hB.out | exact hM.out)).mono ?_
        rintro e W' ⟨rfl, hb⟩
        go_wp2_with fail
        first | exact ⟨trivial, rfl, trivial, HeldL.next hb hS⟩ | exact ⟨rfl, trivial, HeldL.next hb hS⟩
      · have k22 : vals 22 = .bool true := hφ 22 (hd 22 (by decide))
        have k29 : vals 29 = .bool true := hφ 29 (hd 29 (by decide))
        refine wpAt_of rfl rfl ?_
        simp only [frOf, Act.put]
        go_wp2_with fail
        first | exact ⟨trivial, rfl, trivial, hS⟩ | exact ⟨rfl, trivial, hS⟩
      · have k30 : vals 30 = .bool true := hφ 30 (hd 30 (by decide))
        refine wpAt_of rfl rfl ?_
        simp only [frOf, Act.put]
        go_wp2_with fail
        first | exact ⟨trivial, rfl, trivial, hS⟩ | exact ⟨rfl, trivial, hS⟩
    · intro L vals W hall hφ hS
      have k0 : vals 0 = .agg #[.int .i64 ml, .int .i64 mh] := hφ 0 (by decide)
      have k1 : vals 1 = .agg #[.int .i64 x0, .int .i64 x1] := hφ 1 (by decide)
      have k2 : vals 2 = .bool true := hφ 2 (by decide)
      have k3 : vals 3 = .bool true := hφ 3 (by decide)
      have k4 : vals 4 = .agg #[.int .i64 ml, .int .i64 mh] := hφ 4 (by decide)
      have k5 : vals 5 = .agg #[.int .i64 y0, .int .i64 y1] := hφ 5 (by decide)
      have k6 : vals 6 = .bool true := hφ 6 (by decide)
      have k7 : vals 7 = .bool true := hφ 7 (by decide)
      have k8 : vals 8 = .bool true := hφ 8 (by decide)
      have k9 : vals 9 = .agg #[.int .i64 ml, .int .i64 mh] := hφ 9 (by decide)
      have k10 : vals 10 = .int .i64 n := hφ 10 (by decide)
      have k11 : vals 11 = .bool false := hφ 11 (by decide)
      have k12 : vals 12 = .agg #[.int .i64 x0, .int .i64 x1] := hφ 12 (by decide)
      have k13 : vals 13 = .int .i64 n := hφ 13 (by decide)
      have k14 : vals 14 = .bool false := hφ 14 (by decide)
      have k15 : vals 15 = .bool false := hφ 15 (by decide)
      have k16 : vals 16 = undef := hφ 16 (by decide)
      have k17 : vals 17 = undef := hφ 17 (by decide)
      have k18 : vals 18 = undef := hφ 18 (by decide)
      have k19 : vals 19 = .bool false := hφ 19 (by decide)
      have k20 : vals 20 = .bool true := hφ 20 (by decide)
      have k21 : vals 21 = .bool true := hφ 21 (by decide)
      have k22 : vals 22 = .bool true := hφ 22 (by decide)
      have k23 : vals 23 = .agg #[.int .i64 ml, .int .i64 mh] := hφ 23 (by decide)
      have k24 : vals 24 = .pointer (some ⟨w1.heap.size, 0, none⟩) := hφ 24 (by decide)
      have k25 : vals 25 = .int .i64 x0 := hφ 25 (by decide)
      have k26 : vals 26 = .pointer (some ⟨w1.heap.size + 1, 0, none⟩) := hφ 26 (by decide)
      have k27 : vals 27 = .int .i64 y0 := hφ 27 (by decide)
      have k28 : vals 28 = .int .i64 ml := hφ 28 (by decide)
      have k29 : vals 29 = .bool true := hφ 29 (by decide)
      have k30 : vals 30 = .bool true := hφ 30 (by decide)
      have k31 : vals 31 = .bool true := hφ 31 (by decide)
      simp only [frOf, Act.put, List.setIfInBounds_toArray, List.set_cons_succ, List.set_cons_zero, k0, k1, k2, k3, k4, k5, k6, k7, k8, k9, k10, k11, k12, k13, k14, k15, k16, k17, k18, k19, k20, k21, k22, k23, k24, k25, k26, k27, k28, k29, k30, k31]
      clear k0 k1 k2 k3 k4 k5 k6 k7 k8 k9 k10 k11 k12 k13 k14 k15 k16 k17 k18 k19 k20 k21 k22 k23 k24 k25 k26 k27 k28 k29 k30 k31
      clear hall hφ hS0
      go_wp2_with fail
      go_ret
      exact ⟨rfl, hS.below⟩
  · rw [ha0, Bool.true_and] at hhm
    obtain ⟨t, ht⟩ : ∃ t, itvHas y0 y1 n = t := ⟨_, rfl⟩
    rw [ht] at hhm
    have hA : Hid (itvHas x0 x1 n = true) := ha0
    have hX : Hid (itvHas ml mh n = t) := hhm
    have hB : Hid (itvHas y0 y1 n = t) := ht
    clear ha0 hhm ht
    go_wp2_with fail
    refine region_inv3 [(0, 78), (1, 79), (2, 80), (3, 81), (4, 82), (5, 83), (6, 84), (7, 85), (8, 86), (9, 87), (10, 88), (11, 89), (12, 90), (13, 91), (14, 92), (15, 93), (16, 94), (17, 95), (18, 96), (19, 97), (20, 98), (21, 99), (22, 100), (23, 101), (24, 102), (25, 103), (26, 104), (27, 105), (28, 106), (29, 107), (30, 108), (31, 4)]
      (fun j v _ => match j with
        | 0 => Is (.agg #[.int .i64 ml, .int .i64 mh]) v
        | 1 => Is (.agg #[.int .i64 x0, .int .i64 x1]) v
        | 2 => Is (.bool true) v
        | 3 => Is (.bool true) v
        | 4 => Is (.agg #[.int .i64 ml, .int .i64 mh]) v
        | 5 => Is (.agg #[.int .i64 y0, .int .i64 y1]) v
        | 6 => Is (.bool true) v
        | 7 => Is (.bool true) v
        | 8 => Is (.bool true) v
        | 9 => Is (.agg #[.int .i64 ml, .int .i64 mh]) v
        | 10 => Is (.int .i64 n) v
        | 11 => Is (.bool t) v
        | 12 => Is (.agg #[.int .i64 x0, .int .i64 x1]) v
        | 13 => Is (.int .i64 n) v
        | 14 => Is (.bool true) v
        | 15 => Is (.bool true) v
        | 16 => Is (.agg #[.int .i64 y0, .int .i64 y1]) v
        | 17 => Is (.int .i64 n) v
        | 18 => Is (.bool t) v
        | 19 => Is (.bool t) v
        | 20 => Is (.bool true) v
        | 21 => Is (.bool true) v
        | 22 => Is (.bool true) v
        | 23 => Is (.agg #[.int .i64 ml, .int .i64 mh]) v
        | 24 => Is (.pointer (some ⟨w1.heap.size, 0, none⟩)) v
        | 25 => Is (.int .i64 x0) v
        | 26 => Is (.pointer (some ⟨w1.heap.size + 1, 0, none⟩)) v
        | 27 => Is (.int .i64 y0) v
        | 28 => Is (.int .i64 ml) v
        | 29 => Is (.bool true) v
        | 30 => Is (.bool true) v
        | 31 => Is (.bool true) v
        | _ => True)
      (fun _ W => HeldL w Lb W) TT
      (by kernel_rfl) (by kernel_rfl) (by kernel_rfl) (by kernel_rfl) (by kernel_rfl) rfl hS0 (fun i j v W W' _ h _ => h) ?_ ?_
    · intro i L vals W hi' hφ hS hL hd
      have hi2 : i < 32 := hi'
      clear hi'
      rcases (show i = 0 ∨ i = 1 ∨ i = 2 ∨ i = 3 ∨ i = 4 ∨ i = 5 ∨ i = 6 ∨ i = 7 ∨ i = 8 ∨ i = 9 ∨ i = 10 ∨ i = 11 ∨ i = 12 ∨ i = 13 ∨ i = 14 ∨ i = 15 ∨ i = 16 ∨ i = 17 ∨ i = 18 ∨ i = 19 ∨ i = 20 ∨ i = 21 ∨ i = 22 ∨ i = 23 ∨ i = 24 ∨ i = 25 ∨ i = 26 ∨ i = 27 ∨ i = 28 ∨ i = 29 ∨ i = 30 ∨ i = 31 by omega) with rfl | rfl | rfl | rfl | rfl | rfl | rfl | rfl | rfl | rfl | rfl | rfl | rfl | rfl | rfl | rfl | rfl | rfl | rfl | rfl | rfl | rfl | rfl | rfl | rfl | rfl | rfl | rfl | rfl | rfl | rfl | rfl
      · have c0 : W.cell? ⟨w3.heap.size, 0, none⟩ = some (.int .i64 ml) := HeldL.cell hS mX (i := 0) rfl
        have c1 : W.cell? ⟨w3.heap.size, 1, none⟩ = some (.int .i64 mh) := HeldL.cell hS mX (i := 1) rfl
        refine wpAt_of rfl rfl ?_
        simp only [frOf, Act.put]
        go_wp2_with fail
        first | exact ⟨trivial, rfl, trivial, hS⟩ | exact ⟨rfl, trivial, hS⟩
      · have c0 : W.cell? ⟨w1.heap.size, 0, none⟩ = some (.int .i64 x0) := HeldL.cell hS mA (i := 0) rfl
        have c1 : W.cell? ⟨w1.heap.size, 1, none⟩ = some (.int .i64 x1) := HeldL.cell hS mA (i := 1) rfl
        refine wpAt_of rfl rfl ?_
        simp only [frOf, Act.put]
        go_wp2_with fail
        first | exact ⟨trivial, rfl, trivial, hS⟩ | exact ⟨rfl, trivial, hS⟩
      · have k0 : vals 0 = .agg #[.int .i64 ml, .int .i64 mh] := hφ 0 (hd 0 (by decide))
        have k1 : vals 1 = .agg #[.int .i64 x0, .int .i64 x1] := hφ 1 (hd 1 (by decide))
        refine wpAt_of rfl rfl ?_
        simp only [frOf, Act.put]
        go_wp2_with fail
        refine (inI_is _ _ _ _ true _ (by first | exact iA.out | exact iB.out)).mono ?_
        rintro e W' ⟨rfl, hb⟩
        go_wp2_with fail
        first | exact ⟨trivial, rfl, trivial, HeldL.next hb hS⟩ | exact ⟨rfl, trivial, HeldL.next hb hS⟩
      · have k2 : vals 2 = .bool true := hφ 2 (hd 2 (by decide))
        refine wpAt_of rfl rfl ?_
        simp only [frOf, Act.put]
        go_wp2_with fail
        first | exact ⟨trivial, rfl, trivial, hS⟩ | exact ⟨rfl, trivial, hS⟩
      · have k3 : vals 3 = .bool true := hφ 3 (hd 3 (by decide))
        have c0 : W.cell? ⟨w3.heap.size, 0, none⟩ = some (.int .i64 ml) := HeldL.cell hS mX (i := 0) rfl
        have c1 : W.cell? ⟨w3.heap.size, 1, none⟩ = some (.int .i64 mh) := HeldL.cell hS mX (i := 1) rfl
        simp only [wpAt, List.getElem?_toArray, List.getElem?_cons_succ, List.getElem?_cons_zero, slotOf, frOf, Act.put]
        go_wp2_with fail
        first | exact ⟨trivial, rfl, trivial, hS⟩ | exact ⟨rfl, trivial, hS⟩
      · have k3 : vals 3 = .bool true := hφ 3 (hd 3 (by decide))
        have c0 : W.cell? ⟨w1.heap.size + 1, 0, none⟩ = some (.int .i64 y0) := HeldL.cell hS mB (i := 0) rfl
        have c1 : W.cell? ⟨w1.heap.size + 1, 1, none⟩ = some (.int .i64 y1) := HeldL.cell hS mB (i := 1) rfl
        simp only [wpAt, List.getElem?_toArray, List.getElem?_cons_succ, List.getElem?_cons_zero, slotOf, frOf, Act.put]
        go_wp2_with fail
        first | exact ⟨trivial, rfl, trivial, hS⟩ | exact ⟨rfl, trivial, hS⟩
      · have k3 : vals 3 = .bool true := hφ 3 (hd 3 (by decide))
        have k4 : vals 4 = .agg #[.int .i64 ml, .int .i64 mh] := hφ 4 (hd 4 (by decide))
        have k5 : vals 5 = .agg #[.int .i64 y0, .int .i64 y1] := hφ 5 (hd 5 (by decide))
        simp only [wpAt, List.getElem?_toArray, List.getElem?_cons_succ, List.getElem?_cons_zero, slotOf, frOf, Act.put]
        go_wp2_with fail
        refine (inI_is _ _ _ _ true _ (by first | exact iA.out | exact iB.out)).mono ?_
        rintro e W' ⟨rfl, hb⟩
        go_wp2_with fail
        first | exact ⟨trivial, rfl, trivial, HeldL.next hb hS⟩ | exact ⟨rfl, trivial, HeldL.next hb hS⟩
      · have k3 : vals 3 = .bool true := hφ 3 (hd 3 (by decide))
        have k6 : vals 6 = .bool true := hφ 6 (hd 6 (by decide))
        refine wpAt_of rfl rfl ?_
        simp only [frOf, Act.put]
        go_wp2_with fail
        first | exact ⟨trivial, rfl, trivial, hS⟩ | exact ⟨rfl, trivial, hS⟩
      · have k7 : vals 7 = .bool true := hφ 7 (hd 7 (by decide))
        refine wpAt_of rfl rfl ?_
        simp only [frOf, Act.put]
        go_wp2_with fail
        first | exact ⟨trivial, rfl, trivial, hS⟩ | exact ⟨rfl, trivial, hS⟩
      · have k8 : vals 8 = .bool true := hφ 8 (hd 8 (by decide))
        have c0 : W.cell? ⟨w3.heap.size, 0, none⟩ = some (.int .i64 ml) := HeldL.cell hS mX (i := 0) rfl
        have c1 : W.cell? ⟨w3.heap.size, 1, none⟩ = some (.int .i64 mh) := HeldL.cell hS mX (i := 1) rfl
        simp only [wpAt, List.getElem?_toArray, List.getElem?_cons_succ, List.getElem?_cons_zero, slotOf, frOf, Act.put]
        go_wp2_with fail
        first | exact ⟨trivial, rfl, trivial, hS⟩ | exact ⟨rfl, trivial, hS⟩
      · have k8 : vals 8 = .bool true := hφ 8 (hd 8 (by decide))
        simp only [wpAt, List.getElem?_toArray, List.getElem?_cons_succ, List.getElem?_cons_zero, slotOf, frOf, Act.put]
        go_wp2_with fail
        first | exact ⟨trivial, rfl, trivial, hS⟩ | exact ⟨rfl, trivial, hS⟩
      · have k8 : vals 8 = .bool true := hφ 8 (hd 8 (by decide))
        have k9 : vals 9 = .agg #[.int .i64 ml, .int .i64 mh] := hφ 9 (hd 9 (by decide))
        have k10 : vals 10 = .int .i64 n := hφ 10 (hd 10 (by decide))
        simp only [wpAt, List.getElem?_toArray, List.getElem?_cons_succ, List.getElem?_cons_zero, slotOf, frOf, Act.put]
        go_wp2_with fail
        refine (hasI_is _ _ _ _ _ (by first | exact hX.out | exact hA.out | exact hB.out | exact hM.out)).mono ?_
        rintro e W' ⟨rfl, hb⟩
        go_wp2_with fail
        first | exact ⟨trivial, rfl, trivial, HeldL.next hb hS⟩ | exact ⟨rfl, trivial, HeldL.next hb hS⟩
      · have k8 : vals 8 = .bool true := hφ 8 (hd 8 (by decide))
        have c0 : W.cell? ⟨w1.heap.size, 0, none⟩ = some (.int .i64 x0) := HeldL.cell hS mA (i := 0) rfl
        have c1 : W.cell? ⟨w1.heap.size, 1, none⟩ = some (.int .i64 x1) := HeldL.cell hS mA (i := 1) rfl
        simp only [wpAt, List.getElem?_toArray, List.getElem?_cons_succ, List.getElem?_cons_zero, slotOf, frOf, Act.put]
        go_wp2_with fail
        first | exact ⟨trivial, rfl, trivial, hS⟩ | exact ⟨rfl, trivial, hS⟩
      · have k8 : vals 8 = .bool true := hφ 8 (hd 8 (by decide))
        simp only [wpAt, List.getElem?_toArray, List.getElem?_cons_succ, List.getElem?_cons_zero, slotOf, frOf, Act.put]
        go_wp2_with fail
        first | exact ⟨trivial, rfl, trivial, hS⟩ | exact ⟨rfl, trivial, hS⟩
      · have k8 : vals 8 = .bool true := hφ 8 (hd 8 (by decide))
        have k12 : vals 12 = .agg #[.int .i64 x0, .int .i64 x1] := hφ 12 (hd 12 (by decide))
        have k13 : vals 13 = .int .i64 n := hφ 13 (hd 13 (by decide))
        simp only [wpAt, List.getElem?_toArray, List.getElem?_cons_succ, List.getElem?_cons_zero, slotOf, frOf, Act.put]
        go_wp2_with fail
        refine (hasI_is _ _ _ _ _ (by first | exact hX.out | exact hA.out | exact hB.out | exact hM.out)).mono ?_
        rintro e W' ⟨rfl, hb⟩
        go_wp2_with fail
        first | exact ⟨trivial, rfl, trivial, HeldL.next hb hS⟩ | exact ⟨rfl, trivial, HeldL.next hb hS⟩
      · have k8 : vals 8 = .bool true := hφ 8 (hd 8 (by decide))
        have k14 : vals 14 = .bool true := hφ 14 (hd 14 (by decide))
        simp only [wpAt, List.getElem?_toArray, List.getElem?_cons_succ, List.getElem?_cons_zero, slotOf, frOf, Act.put]
        go_wp2_with fail
        first | exact ⟨trivial, rfl, trivial, hS⟩ | exact ⟨rfl, trivial, hS⟩
      · have k15 : vals 15 = .bool true := hφ 15 (hd 15 (by decide))
        have c0 : W.cell? ⟨w1.heap.size + 1, 0, none⟩ = some (.int .i64 y0) := HeldL.cell hS mB (i := 0) rfl
        have c1 : W.cell? ⟨w1.heap.size + 1, 1, none⟩ = some (.int .i64 y1) := HeldL.cell hS mB (i := 1) rfl
        simp only [wpAt, List.getElem?_toArray, List.getElem?_cons_succ, List.getElem?_cons_zero, slotOf, frOf, Act.put]
        go_wp2_with fail
        first | exact ⟨trivial, rfl, trivial, hS⟩ | exact ⟨rfl, trivial, hS⟩
      · have k15 : vals 15 = .bool true := hφ 15 (hd 15 (by decide))
        simp only [wpAt, List.getElem?_toArray, List.getElem?_cons_succ, List.getElem?_cons_zero, slotOf, frOf, Act.put]
        go_wp2_with fail
        first | exact ⟨trivial, rfl, trivial, hS⟩ | exact ⟨rfl, trivial, hS⟩
      · have k15 : vals 15 = .bool true := hφ 15 (hd 15 (by decide))
        have k16 : vals 16 = .agg #[.int .i64 y0, .int .i64 y1] := hφ 16 (hd 16 (by decide))
        have k17 : vals 17 = .int .i64 n := hφ 17 (hd 17 (by decide))
        simp only [wpAt, List.getElem?_toArray, List.getElem?_cons_succ, List.getElem?_cons_zero, slotOf, frOf, Act.put]
        go_wp2_with fail
        refine (hasI_is _ _ _ _ _ (by first | exact hX.out | exact hA.out | exact hB.out | exact hM.out)).mono ?_
        rintro e W' ⟨rfl, hb⟩
        go_wp2_with fail
        first | exact ⟨trivial, rfl, trivial, HeldL.next hb hS⟩ | exact ⟨rfl, trivial, HeldL.next hb hS⟩
      · have k8 : vals 8 = .bool true := hφ 8 (hd 8 (by decide))
        have k15 : vals 15 = .bool true := hφ 15 (hd 15 (by decide))
        have k18 : vals 18 = .bool t := hφ 18 (hd 18 (by decide))
        simp only [wpAt, List.getElem?_toArray, List.getElem?_cons_succ, List.getElem?_cons_zero, slotOf, frOf, Act.put]
        go_wp2_with fail
        first | exact ⟨trivial, rfl, trivial, hS⟩ | exact ⟨rfl, trivial, hS⟩
      · have k8 : vals 8 = .bool true := hφ 8 (hd 8 (by decide))
        have k11 : vals 11 = .bool t := hφ 11 (hd 11 (by decide))
        have k19 : vals 19 = .bool t := hφ 19 (hd 19 (by decide))
        simp only [wpAt, List.getElem?_toArray, List.getElem?_cons_succ, List.getElem?_cons_zero, slotOf, frOf, Act.put]
        go_wp2_with fail
        first | exact ⟨trivial, rfl, trivial, hS⟩ | exact ⟨rfl, trivial, hS⟩
      · have k8 : vals 8 = .bool true := hφ 8 (hd 8 (by decide))
        have k20 : vals 20 = .bool true := hφ 20 (hd 20 (by decide))
        refine wpAt_of rfl rfl ?_
        simp only [frOf, Act.put]
        go_wp2_with fail
        first | exact ⟨trivial, rfl, trivial, hS⟩ | exact ⟨rfl, trivial, hS⟩
      · have k21 : vals 21 = .bool true := hφ 21 (hd 21 (by decide))
        refine wpAt_of rfl rfl ?_
        simp only [frOf, Act.put]
        go_wp2_with fail
        first | exact ⟨trivial, rfl, trivial, hS⟩ | exact ⟨rfl, trivial, hS⟩
      · have k22 : vals 22 = .bool true := hφ 22 (hd 22 (by decide))
        have c0 : W.cell? ⟨w3.heap.size, 0, none⟩ = some (.int .i64 ml) := HeldL.cell hS mX (i := 0) rfl
        have c1 : W.cell? ⟨w3.heap.size, 1, none⟩ = some (.int .i64 mh) := HeldL.cell hS mX (i := 1) rfl
        simp only [wpAt, List.getElem?_toArray, List.getElem?_cons_succ, List.getElem?_cons_zero, slotOf, frOf, Act.put]
        go_wp2_with fail
        first | exact ⟨trivial, rfl, trivial, hS⟩ | exact ⟨rfl, trivial, hS⟩
      · have k22 : vals 22 = .bool true := hφ 22 (hd 22 (by decide))
        simp only [wpAt, List.getElem?_toArray, List.getElem?_cons_succ, List.getElem?_cons_zero, slotOf, frOf, Act.put]
        go_wp2_with fail
        first | exact ⟨trivial, rfl, trivial, hS⟩ | exact ⟨rfl, trivial, hS⟩
      · have k22 : vals 22 = .bool true := hφ 22 (hd 22 (by decide))
        have k24 : vals 24 = .pointer (some ⟨w1.heap.size, 0, none⟩) := hφ 24 (hd 24 (by decide))
        have c0 : W.cell? ⟨w1.heap.size, 0, none⟩ = some (.int .i64 x0) := HeldL.cell hS mA (i := 0) rfl
        simp only [wpAt, List.getElem?_toArray, List.getElem?_cons_succ, List.getElem?_cons_zero, slotOf, frOf, Act.put]
        go_wp2_with fail
        first | exact ⟨trivial, rfl, trivial, hS⟩ | exact ⟨rfl, trivial, hS⟩
      · have k22 : vals 22 = .bool true := hφ 22 (hd 22 (by decide))
        simp only [wpAt, List.getElem?_toArray, List.getElem?_cons_succ, List.getElem?_cons_zero, slotOf, frOf, Act.put]
        go_wp2_with fail
        first | exact ⟨trivial, rfl, trivial, hS⟩ | exact ⟨rfl, trivial, hS⟩
      · have k22 : vals 22 = .bool true := hφ 22 (hd 22 (by decide))
        have k26 : vals 26 = .pointer (some ⟨w1.heap.size + 1, 0, none⟩) := hφ 26 (hd 26 (by decide))
        have c1 : W.cell? ⟨w1.heap.size + 1, 0, none⟩ = some (.int .i64 y0) := HeldL.cell hS mB (i := 0) rfl
        simp only [wpAt, List.getElem?_toArray, List.getElem?_cons_succ, List.getElem?_cons_zero, slotOf, frOf, Act.put]
        go_wp2_with fail
        first | exact ⟨trivial, rfl, trivial, hS⟩ | exact ⟨rfl, trivial, hS⟩
      · have k22 : vals 22 = .bool true := hφ 22 (hd 22 (by decide))
        have k25 : vals 25 = .int .i64 x0 := hφ 25 (hd 25 (by decide))
        have k27 : vals 27 = .int .i64 y0 := hφ 27 (hd 27 (by decide))
        simp only [wpAt, List.getElem?_toArray, List.getElem?_cons_succ, List.getElem?_cons_zero, slotOf, frOf, Act.put]
        go_wp2_with fail
        all_goals (first | exact ⟨mx1 hmx.out (by assumption), trivial⟩ | exact ⟨mx2 hmx.out (by assumption), trivial⟩ | exact ⟨mx3 hmx.out (by assumption), trivial⟩ | exact ⟨mx4 hmx.out (by assumption), trivial⟩ | exact ⟨mx5 hmx.out (by assumption), trivial⟩ | exact ⟨mx6 hmx.out (by assumption), trivial⟩ | exact ⟨mx7 hmx.out (by assumption), trivial⟩ | exact ⟨mx8 hmx.out (by assumption), trivial⟩)
      · have k22 : vals 22 = .bool true := hφ 22 (hd 22 (by decide))
        have k23 : vals 23 = .agg #[.int .i64 ml, .int .i64 mh] := hφ 23 (hd 23 (by decide))
        have k28 : vals 28 = .int .i64 ml := hφ 28 (hd 28 (by decide))
        simp only [wpAt, List.getElem?_toArray, List.getElem?_cons_succ, List.getElem?_cons_zero, slotOf, frOf, Act.put]
        go_wp2_with fail
        refine (hasI_is _ _ _ _ _ (by first | exact hX.out | exact hA.out | exact hB.out | exact hM.out)).mono ?_
        rintro e W' ⟨rfl, hb⟩
        go_wp2_with fail
        first | exact ⟨trivial, rfl, trivial, HeldL.next hb hS⟩ | exact ⟨rfl, trivial, HeldL.next hb hS⟩
      · have k22 : vals 22 = .bool true := hφ 22 (hd 22 (by decide))
        have k29 : vals 29 = .bool true := hφ 29 (hd 29 (by decide))
        refine wpAt_of rfl rfl ?_
        simp only [frOf, Act.put]
        go_wp2_with fail
        first | exact ⟨trivial, rfl, trivial, hS⟩ | exact ⟨rfl, trivial, hS⟩
      · have k30 : vals 30 = .bool true := hφ 30 (hd 30 (by decide))
        refine wpAt_of rfl rfl ?_
        simp only [frOf, Act.put]
        go_wp2_with fail
        first | exact ⟨trivial, rfl, trivial, hS⟩ | exact ⟨rfl, trivial, hS⟩
    · intro L vals W hall hφ hS
      have k0 : vals 0 = .agg #[.int .i64 ml, .int .i64 mh] := hφ 0 (by decide)
      have k1 : vals 1 = .agg #[.int .i64 x0, .int .i64 x1] := hφ 1 (by decide)
      have k2 : vals 2 = .bool true := hφ 2 (by decide)
      have k3 : vals 3 = .bool true := hφ 3 (by decide)
      have k4 : vals 4 = .agg #[.int .i64 ml, .int .i64 mh] := hφ 4 (by decide)
      have k5 : vals 5 = .agg #[.int .i64 y0, .int .i64 y1] := hφ 5 (by decide)
      have k6 : vals 6 = .bool true := hφ 6 (by decide)
      have k7 : vals 7 = .bool true := hφ 7 (by decide)
      have k8 : vals 8 = .bool true := hφ 8 (by decide)
      have k9 : vals 9 = .agg #[.int .i64 ml, .int .i64 mh] := hφ 9 (by decide)
      have k10 : vals 10 = .int .i64 n := hφ 10 (by decide)
      have k11 : vals 11 = .bool t := hφ 11 (by decide)
      have k12 : vals 12 = .agg #[.int .i64 x0, .int .i64 x1] := hφ 12 (by decide)
      have k13 : vals 13 = .int .i64 n := hφ 13 (by decide)
      have k14 : vals 14 = .bool true := hφ 14 (by decide)
      have k15 : vals 15 = .bool true := hφ 15 (by decide)
      have k16 : vals 16 = .agg #[.int .i64 y0, .int .i64 y1] := hφ 16 (by decide)
      have k17 : vals 17 = .int .i64 n := hφ 17 (by decide)
      have k18 : vals 18 = .bool t := hφ 18 (by decide)
      have k19 : vals 19 = .bool t := hφ 19 (by decide)
      have k20 : vals 20 = .bool true := hφ 20 (by decide)
      have k21 : vals 21 = .bool true := hφ 21 (by decide)
      have k22 : vals 22 = .bool true := hφ 22 (by decide)
      have k23 : vals 23 = .agg #[.int .i64 ml, .int .i64 mh] := hφ 23 (by decide)
      have k24 : vals 24 = .pointer (some ⟨w1.heap.size, 0, none⟩) := hφ 24 (by decide)
      have k25 : vals 25 = .int .i64 x0 := hφ 25 (by decide)
      have k26 : vals 26 = .pointer (some ⟨w1.heap.size + 1, 0, none⟩) := hφ 26 (by decide)
      have k27 : vals 27 = .int .i64 y0 := hφ 27 (by decide)
      have k28 : vals 28 = .int .i64 ml := hφ 28 (by decide)
      have k29 : vals 29 = .bool true := hφ 29 (by decide)
      have k30 : vals 30 = .bool true := hφ 30 (by decide)
      have k31 : vals 31 = .bool true := hφ 31 (by decide)
      simp only [frOf, Act.put, List.setIfInBounds_toArray, List.set_cons_succ, List.set_cons_zero, k0, k1, k2, k3, k4, k5, k6, k7, k8, k9, k10, k11, k12, k13, k14, k15, k16, k17, k18, k19, k20, k21, k22, k23, k24, k25, k26, k27, k28, k29, k30, k31]
      clear k0 k1 k2 k3 k4 k5 k6 k7 k8 k9 k10 k11 k12 k13 k14 k15 k16 k17 k18 k19 k20 k21 k22 k23 k24 k25 k26 k27 k28 k29 k30 k31
      clear hall hφ hS0
      go_wp2_with fail
      go_ret
      exact ⟨rfl, hS.below⟩

theorem contract (H : Type) (enc : TypeId × Value → H) (W : World) (base : Nat) (args : Array Value) (ds gs : List (DataW H)) (before : List MemPlace)
    (hval : ∀ (j : Nat) t v, Try.f7.params[j]? = some t → args[j]? = some v → Value.okWide Try.prog W .any base t v)
    (hW : DataW.Whole enc Try.prog Try.f7.params.toList Rows.fnItvMeetSpec.vars false W args.toList ds gs before) :
    Calls Try.prog 7 args W fun e W' => ∃ v, e = .returned v ∧ Rows.fnItvMeetSpec.post enc Try.prog Try.f7 false true false false W args v W' := by
  have hW' := hW
  obtain ⟨p, q, hA0, hV, rfl, hfz, hnd⟩ := hW
  have hA : DataW.TrodAll enc Try.prog W 0 (fun _ => true) true Try.f7.params.toList args.toList ds p := hA0
  rw [Try.params7] at hA hval
  obtain ⟨v0, vs0, d0, ds0, p0, q0, hargs, rfl, rfl, h0, r0'⟩ := trodAll_cons hA
  obtain ⟨v1, vs1, d1, ds1, p1, q1, rfl, rfl, rfl, h1, r1'⟩ := trodAll_cons r0'
  obtain ⟨rfl, rfl, rfl⟩ := trodAll_nil r1'
  obtain rfl : args = #[v0, v1] := by cases args; simp_all
  obtain ⟨rfl, rfl⟩ := trodVars_none hV
  obtain ⟨a0, len0, cap0, rfl⟩ := okWide_slice Try.underlying22 (hval 0 22 v0 rfl rfl)
  have k0 := h0
  have lt0 : ∀ x ∈ p0, x.block < W.heap.size := by obtain ⟨m, hm⟩ := k0; exact DataW.trod_lt m _ _ _ hm
  obtain ⟨z0, hz0, r0⟩ : ∃ z : Nat → Int, (∀ i, 0 ≤ z i ∧ z i ≤ 255) ∧ Bytes W a0 len0 cap0 z := by
    obtain ⟨fuel, hf⟩ := h0
    rcases open_ints Try.underlying22 Try.underlying5 (by kernel_rfl) hf with ⟨hcs, _⟩ | ⟨x, l, c, zs, hcs, _, hl, hm, hz, _, hcell, hwz⟩
    · simp [Value.cells] at hcs
      obtain ⟨rfl, rfl, rfl⟩ := hcs
      exact ⟨fun _ => 0, fun _ => by simp, .inl rfl⟩
    · simp [Value.cells] at hcs
      obtain ⟨rfl, rfl, rfl⟩ := hcs
      exact bytes_of hl (by simpa using hz) hcell hwz
  obtain ⟨a1, len1, cap1, rfl⟩ := okWide_slice Try.underlying22 (hval 1 22 v1 rfl rfl)
  have k1 := h1
  have lt1 : ∀ x ∈ p1, x.block < W.heap.size := by obtain ⟨m, hm⟩ := k1; exact DataW.trod_lt m _ _ _ hm
  obtain ⟨z1, hz1, r1⟩ : ∃ z : Nat → Int, (∀ i, 0 ≤ z i ∧ z i ≤ 255) ∧ Bytes W a1 len1 cap1 z := by
    obtain ⟨fuel, hf⟩ := h1
    rcases open_ints Try.underlying22 Try.underlying5 (by kernel_rfl) hf with ⟨hcs, _⟩ | ⟨x, l, c, zs, hcs, _, hl, hm, hz, _, hcell, hwz⟩
    · simp [Value.cells] at hcs
      obtain ⟨rfl, rfl, rfl⟩ := hcs
      exact ⟨fun _ => 0, fun _ => by simp, .inl rfl⟩
    · simp [Value.cells] at hcs
      obtain ⟨rfl, rfl, rfl⟩ := hcs
      exact bytes_of hl (by simpa using hz) hcell hwz
  clear hA0
  refine (walk a0 len0 cap0 z0 a1 len1 cap1 z1 W hz0 r0 hz1 r1).mono fun e W' ⟨he, bel⟩ => ?_
  subst he
  exact ⟨_, rfl, _, _, _, [], _, [], hW', trodAll_mk1 (shut_bool Try.underlying4 _), (trodAll_cons_mk (Below.trod laidOut (by kernel_rfl) (of_decide_eq_true (by kernel_rfl)) k0 bel lt0) (trodAll_cons_mk (Below.trod laidOut (by kernel_rfl) (of_decide_eq_true (by kernel_rfl)) k1 bel lt1) trodAll_mk0)), rfl, bel.frame _, fun h => by cases h⟩

set_option maxRecDepth 100000 in
theorem lifted (os : Os) (started : os.Started) (H : Type) (enc : TypeId × Value → H) :
    ReturnsInHanded {} Try.checked os 7 .any (Rows.fnItvMeetSpec.pre6 enc Try.prog Try.f7 Rows.fnItvMeetRow.domain false) (Rows.fnItvMeetSpec.post enc Try.prog Try.f7 false true false false) := by
  refine returnsInHanded_of_change (C := Try.checked) own started (by kernel_rfl) Try.func7
    (ChangeSpec.witness6 (enc := enc) (C := Try.checked) false ⟨#[], #[.slice none 0 0, .slice none 0 0], []⟩ 8 (by kernel_rfl) (by kernel_rfl) (by kernel_rfl) (by kernel_rfl)) ?_
  intro W base args ds gs before hval hW _ _
  exact contract H enc W base args ds gs before hval hW

theorem proved : Rows.FnItvMeetSaid :=
  OpenClaim.holds_of_wide 7 Try.f7 rfl rfl rfl rfl rfl rfl rfl ⟨rfl, rfl, rfl, rfl, rfl⟩ rfl rfl rfl rfl rfl (by kernel_rfl) Try.func7 (by kernel_rfl)
    (of_decide_eq_true (by kernel_rfl)) (by unfold Func.isWrapper; first | (rw [if_pos (by decide +kernel)]; kernel_rfl) | (rw [if_neg (by decide +kernel)]; exact ⟨rfl, rfl⟩))
    (fun os started H enc _ => lifted os started H enc)
#print axioms proved
end Go.Proofs.Yticljcpdihaheaa.fnItvMeet
