/- Whatever bytes are handed in, the law FnItvDo returns true. Of more than 1048576 bytes the law itself answers true. No condition. -/
import Derived.Test.YtceanngbcolbaaaDrawDo
import Derived.Test.YtceanngbcolbaaaDrawList
import Derived.Test.YtceanngbcolbaaaDoIn
import Derived.Test.YtceanngbcolbaaaItvDo
import Derived.Test.YtceanngbcolbaaaItvDoI
import Derived.Test.YtceanngbcolbaaaDo
import Derived.Test.YtceanngbcolbaaaHeld
import Derived.Test.YtceanngbcolbaaaRegInv
import Derived.Test.YtceanngbcolbaaaItvI
import Derived.Deep.RegionHeld3
import Derived.Deep.DeepCutAuto
import Derived.WalkKit
import Derived.ProofKit
import Derived.OpenShut
import Derived.ShutString
import Derived.ChangeOld
import Derived.Below
namespace Go.Proofs.Ytceanngbcolbaaa.fnItvDo
open Go.ChangeShapes Go.WideShapes Go.ChangeAt Go.RowKit
open Go.ChangeMaps (open_string shut_string)
set_option linter.unusedVariables false

theorem own : ownKnob Try.prog.godebug = none := by kernel_rfl
theorem laidOut : laidOutB Try.prog = true := by kernel_rfl

theorem hasI_is (a b n : Int) (t : Bool) (w : World) (h : itvHas a b n = t) :
    Calls Try.prog 15 #[.agg #[.int .i64 a, .int .i64 b], .int .i64 n] w fun e w' => e = .returned (.bool t) ∧ Below w.heap.size w w' := by
  subst h; exact itvHasI a b n w
theorem owOkT (w : World) : Calls Try.prog 12 #[] w fun e w' => e = .returned (.bool true) ∧ w' = w := by
  go_enter Try.func12, Try.ntmps12
  go_wp2_with (go_at_call 42; refine (okI _ _).mono ?_; rintro e w' ⟨rfl, rfl⟩)
  go_ret
  exact ⟨rfl, rfl⟩
/-- What the law holds: its block, and the list. -/
def HL (w : World) (Lb : List (Nat × List Value)) (g : Nat) (zs : List Int) (W : World) : Prop := HeldL w Lb W ∧ g < W.heap.size ∧ ∀ j, j < 12 → W.cell? ⟨g, j, none⟩ = some (.int .i64 (zs.getD j 0))
theorem HL.next {w : World} {Lb : List (Nat × List Value)} {g : Nat} {zs : List Int} {W W' : World} (hb : Below W.heap.size W W') (h : HL w Lb g zs W) : HL w Lb g zs W' :=
  ⟨h.1.next hb, Nat.lt_of_lt_of_le h.2.1 hb.size, fun j hj => (hb.cell (p := ⟨g, j, none⟩) h.2.1).trans (h.2.2 j hj)⟩
theorem HL.cell {w : World} {Lb : List (Nat × List Value)} {g : Nat} {zs : List Int} {W : World} (h : HL w Lb g zs W) {e : Nat × List Value} (he : e ∈ Lb) {i : Nat} {v : Value} (hv : e.2[i]? = some v) : W.cell? ⟨e.1, i, none⟩ = some v := h.1.cell he hv
theorem HL.cells {w : World} {Lb : List (Nat × List Value)} {g : Nat} {zs : List Int} {W : World} (h : HL w Lb g zs W) : ∀ j, j < 12 → W.cell? ⟨g, j, none⟩ = some (.int .i64 (zs.getD j 0)) := h.2.2
theorem HL.below {w : World} {Lb : List (Nat × List Value)} {g : Nat} {zs : List Int} {W : World} (h : HL w Lb g zs W) : Below w.heap.size w W := h.1.below
theorem HL.drew {w : World} {Lb : List (Nat × List Value)} {g : Nat} {zs : List Int} {W : World} (h : HL w Lb g zs W) : HL w Lb g zs W.drew := h.next (Below.refl _ W).drew
theorem itvDoI_is (op a b c d l h : Int) (t : Bool) (w : World) (hl : itvDoLo op a b c d = l) (hh : itvDoHi op a b c d = h) (ht : itvDoOk op a b c d = t) :
    Calls Try.prog 9 #[.int .i64 op, .agg #[.int .i64 a, .int .i64 b], .agg #[.int .i64 c, .int .i64 d]] w fun e w' => e = .returned (.tuple #[.agg #[.int .i64 l, .int .i64 h], .bool t]) ∧ Below w.heap.size w w' := by
  subst hl hh ht; exact itvDoI op a b c d w
theorem itvDoS_is (op a b c d l h : Int) (t : Bool) (w : World) (hl : itvDoLo op a b c d = l) (hh : itvDoHi op a b c d = h) (ht : itvDoOk op a b c d = t) :
    Calls Try.prog 10 #[.int .i64 op, .agg #[.int .i64 a, .int .i64 b], .agg #[.int .i64 c, .int .i64 d]] w fun e w' => e = .returned (.tuple #[.agg #[.int .i64 l, .int .i64 h], .bool t]) ∧ Below w.heap.size w w' := by
  subst hl hh ht; exact itvDoS op a b c d w
theorem doI_is (op a b n : Int) (t : Bool) (w : World) (hn : doN op a b = n) (ht : doOk op a b = t) :
    Calls Try.prog 14 #[.int .i64 op, .int .i64 a, .int .i64 b] w fun e w' => e = .returned (.tuple #[.int .i64 n, .bool t]) ∧ Below w.heap.size w w' := by
  subst hn ht; exact doI op a b w
theorem HL.new {w W : World} {L : List (Nat × List Value)} {g : Nat} {zs : List Int} {x y : Value} {t : TypeId} (h : HL w L g zs W) : HL w ((W.heap.size, [x, y]) :: L) g zs (W.alloc (.cells #[x, y] t)) :=
  ⟨HeldL.new h.1, Nat.lt_of_lt_of_le h.2.1 (by simp), fun j hj => (World.cell?_alloc_lt _ _ _ h.2.1).trans (h.2.2 j hj)⟩

set_option maxRecDepth 10000 in
set_option maxHeartbeats 40000000 in
theorem walk (a0 : Option Addr) (len0 cap0 : Nat) (z0 : Nat → Int) (a1 : Option Addr) (len1 cap1 : Nat) (z1 : Nat → Int) (w : World) (hz0 : ∀ i, 0 ≤ z0 i ∧ z0 i ≤ 255) (r0 : Bytes w a0 len0 cap0 z0) (hz1 : ∀ i, 0 ≤ z1 i ∧ z1 i ≤ 255) (r1 : Bytes w a1 len1 cap1 z1) :
    Calls Try.prog 3 #[.slice a0 len0 cap0, .slice a1 len1 cap1] w fun e w' => e = .returned (.bool true) ∧ Below w.heap.size w w' := by
  by_cases hl0 : len0 ≤ 1048576
  case neg =>
    have hi : (1048576 : Int) < (len0 : Int) := by omega
    go_enter Try.func3, Try.ntmps3
    go_wp2_with fail
    go_ret
    exact ⟨rfl, Below.refl _ _⟩
  have hi0 : ¬ (1048576 : Int) < (len0 : Int) := by omega
  by_cases hl1 : len1 ≤ 1048576
  case neg =>
    have hi : (1048576 : Int) < (len1 : Int) := by omega
    go_enter Try.func3, Try.ntmps3
    go_wp2_with fail
    go_ret
    exact ⟨rfl, Below.refl _ _⟩
  have hi1 : ¬ (1048576 : Int) < (len1 : Int) := by omega
  go_enter Try.func3, Try.ntmps3
  go_wp2_with fail
  refine (drawItvDo a0 len0 cap0 z0 _ hz0 hl0 r0).mono ?_
  rintro e w1 ⟨op, x0, x1, y0, y1, hop, hx0, hx1, hy0, hy1, rfl, b1⟩
  have H3 : HeldL w [(w1.heap.size + 1, [Value.int .i64 y0, .int .i64 y1]), (w1.heap.size, [Value.int .i64 x0, .int .i64 x1])] ((w1.alloc (.cells #[.int .i64 x0, .int .i64 x1] 24)).alloc (.cells #[.int .i64 y0, .int .i64 y1] 24)) := by
    have e : w1.heap.size + 1 = (w1.alloc (.cells #[.int .i64 x0, .int .i64 x1] 24)).heap.size := by simp
    rw [e]
    exact HeldL.new (HeldL.new ((HeldL.nil w).next b1))
  have r1' := r1.kept H3.below
  clear r0 r1
  go_wp2_with fail
  refine (drawInputs a1 len1 cap1 z1 _ hz1 hl1 r1').mono ?_
  rintro e w2 ⟨n, v, hn1, hn2, rfl, ⟨g, cap, zs, rfl, hcap, hg1, hg2, hlen, hin, hcell⟩, b2⟩
  have H5 := H3.next b2
  have hL2 : HL w [(w1.heap.size + 1, [Value.int .i64 y0, .int .i64 y1]), (w1.heap.size, [Value.int .i64 x0, .int .i64 x1])] g zs w2 := ⟨H5, hg2, hcell⟩
  have a0' := H5.cell (e := (w1.heap.size, [Value.int .i64 x0, .int .i64 x1])) (by simp) (i := 0) rfl
  have a1' := H5.cell (e := (w1.heap.size, [Value.int .i64 x0, .int .i64 x1])) (by simp) (i := 1) rfl
  have a2' := H5.cell (e := (w1.heap.size + 1, [Value.int .i64 y0, .int .i64 y1])) (by simp) (i := 0) rfl
  have a3' := H5.cell (e := (w1.heap.size + 1, [Value.int .i64 y0, .int .i64 y1])) (by simp) (i := 1) rfl
  dsimp only at a0' a1' a2' a3'
  clear r1' H3 b2 H5 hcell hg1 hg2 hcap b1
  obtain ⟨ml, hl0'⟩ : ∃ l, itvDoLo op x0 x1 y0 y1 = l := ⟨_, rfl⟩
  obtain ⟨mh, hh0'⟩ : ∃ l, itvDoHi op x0 x1 y0 y1 = l := ⟨_, rfl⟩
  obtain ⟨mo, ho0'⟩ : ∃ l, itvDoOk op x0 x1 y0 y1 = l := ⟨_, rfl⟩
  have hml : Hid (itvDoLo op x0 x1 y0 y1 = ml) := hl0'
  have hmh : Hid (itvDoHi op x0 x1 y0 y1 = mh) := hh0'
  have hmo : Hid (itvDoOk op x0 x1 y0 y1 = mo) := ho0'
  clear hl0' hh0' ho0'
  go_wp2_with fail
  refine (itvDoI_is _ _ _ _ _ ml mh mo _ hml.out hmh.out hmo.out).mono ?_
  rintro e w3 ⟨rfl, b3⟩
  have H6 := HL.new (t := 24) (x := .int .i64 ml) (y := .int .i64 mh) (hL2.next b3)
  clear a0' a1' a2' a3' b3 hL2
  have a0' := H6.1.cell (e := (w1.heap.size, [Value.int .i64 x0, .int .i64 x1])) (by simp) (i := 0) rfl
  have a1' := H6.1.cell (e := (w1.heap.size, [Value.int .i64 x0, .int .i64 x1])) (by simp) (i := 1) rfl
  have a2' := H6.1.cell (e := (w1.heap.size + 1, [Value.int .i64 y0, .int .i64 y1])) (by simp) (i := 0) rfl
  have a3' := H6.1.cell (e := (w1.heap.size + 1, [Value.int .i64 y0, .int .i64 y1])) (by simp) (i := 1) rfl
  dsimp only at a0' a1' a2' a3'
  go_wp2_with fail
  refine (itvDoS_is _ _ _ _ _ ml mh mo _ hml.out hmh.out hmo.out).mono ?_
  rintro e w4 ⟨rfl, b4⟩
  have H7 := HL.new (t := 24) (x := .int .i64 ml) (y := .int .i64 mh) (H6.next b4)
  clear a0' a1' a2' a3' b4 H6
  obtain ⟨Lb, hLb⟩ : ∃ Lb, Lb = [(w4.heap.size, [Value.int .i64 ml, .int .i64 mh]), (w3.heap.size, [Value.int .i64 ml, .int .i64 mh]), (w1.heap.size + 1, [Value.int .i64 y0, .int .i64 y1]), (w1.heap.size, [Value.int .i64 x0, .int .i64 x1])] := ⟨_, rfl⟩
  have mA : (w1.heap.size, [Value.int .i64 x0, .int .i64 x1]) ∈ Lb := by rw [hLb]; simp
  have mB : (w1.heap.size + 1, [Value.int .i64 y0, .int .i64 y1]) ∈ Lb := by rw [hLb]; simp
  have mX : (w3.heap.size, [Value.int .i64 ml, .int .i64 mh]) ∈ Lb := by rw [hLb]; simp
  have mW : (w4.heap.size, [Value.int .i64 ml, .int .i64 mh]) ∈ Lb := by rw [hLb]; simp
  rw [← hLb] at H7
  clear hLb
  have a0' := H7.cell mA (i := 0) rfl
  have a1' := H7.cell mA (i := 1) rfl
  have a4' := H7.cell mX (i := 0) rfl
  have a5' := H7.cell mX (i := 1) rfl
  have a6' := H7.cell mW (i := 0) rfl
  have a7' := H7.cell mW (i := 1) rfl
  dsimp only at a0' a1' a4' a5' a6' a7'
  go_wp2_with fail
  refine (itvOkS _ _ _).mono ?_
  rintro e w5 ⟨rfl, b5⟩
  have H8 := H7.next b5
  clear a0' a1' a4' a5' a6' a7' b5 H7
  cases oka : itvOk x0 x1
  · obtain rfl : mo = false := by rw [← hmo.out]; simp [itvDoOk, two, oka]
    go_wp2_with (first | (go_at_call 12; refine (owOkT _).mono ?_; rintro e w' ⟨rfl, rfl⟩))
    go_ret
    exact ⟨rfl, H8.below⟩
  have a2' := H8.cell mB (i := 0) rfl
  have a3' := H8.cell mB (i := 1) rfl
  dsimp only at a2' a3'
  go_wp2_with fail
  refine (itvOkS _ _ _).mono ?_
  rintro e w6 ⟨rfl, b6⟩
  have H9 := H8.next b6
  clear a2' a3' b6 H8
  cases okb : itvOk y0 y1
  · obtain rfl : mo = false := by rw [← hmo.out]; simp [itvDoOk, two, okb]
    go_wp2_with (first | (go_at_call 12; refine (owOkT _).mono ?_; rintro e w' ⟨rfl, rfl⟩))
    go_ret
    exact ⟨rfl, H9.below⟩
  have okaS : Hid (itvOk x0 x1 = true) := oka
  have okbS : Hid (itvOk y0 y1 = true) := okb
  have kx := (itvOk_of oka).2.2
  have ky := (itvOk_of okb).2.2
  clear oka okb hz0 hz1 hi0 hi1 hl0 hl1 hx0 hx1 hy0 hy1
  go_wp2_with fail
  go_loopw [14] (fun i W => ∃ k : Nat, k ≤ 12 ∧ i = .int .i64 k ∧ HL w Lb g zs W) (fun i _ => 12 - (intOf i).toNat)
  case atStart => exact ⟨0, by omega, rfl, H9⟩
  case round =>
    clear H9
    obtain ⟨k, hk, rfl, hS⟩ := hrel
    by_cases hlt : k < 12
    · have t1 : ((k : Int)).toNat = k := by omega
      have t2 : (0 : Int) ≤ (k : Int) := by omega
      have t3 : (k : Int) < 12 := by omega
      obtain ⟨y, hy0⟩ : ∃ y, zs.getD k 0 = y := ⟨_, rfl⟩
      have yr : -32768 ≤ y ∧ y ≤ 32767 := by
        rw [← hy0]
        refine hin _ ?_
        rw [List.getD_eq_getElem?_getD, List.getElem?_eq_getElem (by omega)]
        simp
      obtain ⟨yr1, yr2⟩ := yr
      have hy : Hid (some (Value.int .i64 (zs.getD k 0)) = some (.int .i64 y)) := by rw [hy0]; exact rfl
      obtain ⟨y3, h30⟩ : ∃ y3, y.tdiv 3 = y3 := ⟨_, rfl⟩
      have y3r := tdiv_small y 3 yr1 (by omega)
      rw [h30] at y3r
      obtain ⟨y31, y32⟩ := y3r
      have h3 : Hid (y.tdiv 3 = y3) := h30
      obtain ⟨u, hu0⟩ : ∃ u, pk x0 x1 (y + n) = u := ⟨_, rfl⟩
      obtain ⟨v, hv0⟩ : ∃ v, pk y0 y1 (y3 - n) = v := ⟨_, rfl⟩
      have hu : Hid (pk x0 x1 (y + n) = u) := hu0
      have hv : Hid (pk y0 y1 (y3 - n) = v) := hv0
      have ub := pk_in (n := y + n) kx
      have vb := pk_in (n := y3 - n) ky
      rw [hu0] at ub
      rw [hv0] at vb
      obtain ⟨m, hm0⟩ : ∃ m, doN op u v = m := ⟨_, rfl⟩
      obtain ⟨fine, hf0⟩ : ∃ t, doOk op u v = t := ⟨_, rfl⟩
      have hm : Hid (doN op u v = m) := hm0
      have hf : Hid (doOk op u v = fine) := hf0
      have fin : Hid (fine = true → mo = true ∧ itvHas ml mh m = true) := by
        intro e
        have := do_in okaS.out okbS.out ub.1 ub.2 vb.1 vb.2 (hf0.trans e)
        rw [hml.out, hmh.out, hmo.out, hm0] at this
        exact this
      clear hy0 h30 hu0 hv0 ub vb hm0 hf0
      have hS0 := hS.drew
      clear hS
      go_wp2_with fail
      refine region_inv3 [(0, 79), (1, 80), (2, 81), (3, 82), (4, 83), (5, 84), (6, 85), (7, 86), (8, 15)]
        (fun j vx _ => match j with
          | 0 => Is (.agg #[.int .i64 x0, .int .i64 x1]) vx
          | 1 => Is (.slice (some ⟨g, 0, none⟩) 12 cap) vx
          | 2 => Is (.int .i64 k) vx
          | 3 => Is (.pointer (some ⟨g, k, none⟩)) vx
          | 4 => Is (.int .i64 (y)) vx
          | 5 => Is (.int .i64 (n)) vx
          | 6 => Is (.int .i64 (y + n)) vx
          | 7 => Is (.int .i64 (u)) vx
          | 8 => Is (.int .i64 (u)) vx
          | _ => True)
        (fun _ W => HL w Lb g zs W) TT
        (by kernel_rfl) (by kernel_rfl) (by kernel_rfl) (by kernel_rfl) (by kernel_rfl) rfl hS0 (fun i j v W W' _ h _ => h) ?_ ?_
      · intro i L vals W hi' hφ hS hL hd
        have hi2 : i < 9 := hi'
        clear hi'
        rcases (show i = 0 ∨ i = 1 ∨ i = 2 ∨ i = 3 ∨ i = 4 ∨ i = 5 ∨ i = 6 ∨ i = 7 ∨ i = 8 by omega) with rfl | rfl | rfl | rfl | rfl | rfl | rfl | rfl | rfl
        · have c0 : W.cell? ⟨w1.heap.size, 0, none⟩ = some (.int .i64 x0) := HL.cell hS mA (i := 0) rfl
          have c1 : W.cell? ⟨w1.heap.size, 1, none⟩ = some (.int .i64 x1) := HL.cell hS mA (i := 1) rfl
          refine wpAt_of rfl rfl ?_
          simp only [frOf, Act.put]
          go_wp2_with fail
          first | exact ⟨trivial, rfl, trivial, hS⟩ | exact ⟨rfl, trivial, hS⟩
        · refine wpAt_of rfl rfl ?_
          simp only [frOf, Act.put]
          go_wp2_with fail
          first | exact ⟨trivial, rfl, trivial, hS⟩ | exact ⟨rfl, trivial, hS⟩
        · refine wpAt_of rfl rfl ?_
          simp only [frOf, Act.put]
          go_wp2_with fail
          first | exact ⟨trivial, rfl, trivial, hS⟩ | exact ⟨rfl, trivial, hS⟩
        · have k1 : vals 1 = .slice (some ⟨g, 0, none⟩) 12 cap := hφ 1 (hd 1 (by decide))
          have k2 : vals 2 = .int .i64 k := hφ 2 (hd 2 (by decide))
          refine wpAt_of rfl rfl ?_
          simp only [frOf, Act.put]
          go_wp2_with fail
          first | exact ⟨trivial, rfl, trivial, hS⟩ | exact ⟨rfl, trivial, hS⟩
        · have k3 : vals 3 = .pointer (some ⟨g, k, none⟩) := hφ 3 (hd 3 (by decide))
          have cy : W.cell? ⟨g, k, none⟩ = some (.int .i64 y) := (HL.cells hS k hlt).trans hy.out
          refine wpAt_of rfl rfl ?_
          simp only [frOf, Act.put]
          go_wp2_with fail
          first | exact ⟨trivial, rfl, trivial, hS⟩ | exact ⟨rfl, trivial, hS⟩
        · refine wpAt_of rfl rfl ?_
          simp only [frOf, Act.put]
          go_wp2_with fail
          first | exact ⟨trivial, rfl, trivial, hS⟩ | exact ⟨rfl, trivial, hS⟩
        · have k4 : vals 4 = .int .i64 (y) := hφ 4 (hd 4 (by decide))
          have k5 : vals 5 = .int .i64 (n) := hφ 5 (hd 5 (by decide))
          refine wpAt_of rfl rfl ?_
          simp only [frOf, Act.put]
          go_wp2_with fail
          first | exact ⟨trivial, rfl, trivial, hS⟩ | exact ⟨rfl, trivial, hS⟩
        · have k0 : vals 0 = .agg #[.int .i64 x0, .int .i64 x1] := hφ 0 (hd 0 (by decide))
          have k6 : vals 6 = .int .i64 (y + n) := hφ 6 (hd 6 (by decide))
          refine wpAt_of rfl rfl ?_
          simp only [frOf, Act.put]
          go_wp2_with fail
          refine (owPick_is _ _ _ u _ okaS.out hu.out).mono ?_
          rintro e W' ⟨rfl, hb⟩
          go_wp2_with fail
          first | exact ⟨trivial, rfl, trivial, HL.next hb hS⟩ | exact ⟨rfl, trivial, HL.next hb hS⟩
        · have k7 : vals 7 = .int .i64 (u) := hφ 7 (hd 7 (by decide))
          refine wpAt_of rfl rfl ?_
          simp only [frOf, Act.put]
          go_wp2_with fail
          first | exact ⟨trivial, rfl, trivial, hS⟩ | exact ⟨rfl, trivial, hS⟩
      · intro L vals W hall hφ hS
        have k0 : vals 0 = .agg #[.int .i64 x0, .int .i64 x1] := hφ 0 (by decide)
        have k1 : vals 1 = .slice (some ⟨g, 0, none⟩) 12 cap := hφ 1 (by decide)
        have k2 : vals 2 = .int .i64 k := hφ 2 (by decide)
        have k3 : vals 3 = .pointer (some ⟨g, k, none⟩) := hφ 3 (by decide)
        have k4 : vals 4 = .int .i64 (y) := hφ 4 (by decide)
        have k5 : vals 5 = .int .i64 (n) := hφ 5 (by decide)
        have k6 : vals 6 = .int .i64 (y + n) := hφ 6 (by decide)
        have k7 : vals 7 = .int .i64 (u) := hφ 7 (by decide)
        have k8 : vals 8 = .int .i64 (u) := hφ 8 (by decide)
        simp only [frOf, Act.put, List.setIfInBounds_toArray, List.set_cons_succ, List.set_cons_zero, k0, k1, k2, k3, k4, k5, k6, k7, k8]
        clear k0 k1 k2 k3 k4 k5 k6 k7 k8
        clear hall hφ hS0
        have hS0 := hS.drew
        clear hS
        go_wp2_with fail
        refine region_inv3 [(0, 87), (1, 88), (2, 89), (3, 90), (4, 91), (5, 92), (6, 93), (7, 94), (8, 95), (9, 16)]
          (fun j vx _ => match j with
            | 0 => Is (.agg #[.int .i64 y0, .int .i64 y1]) vx
            | 1 => Is (.slice (some ⟨g, 0, none⟩) 12 cap) vx
            | 2 => Is (.int .i64 k) vx
            | 3 => Is (.pointer (some ⟨g, k, none⟩)) vx
            | 4 => Is (.int .i64 (y)) vx
            | 5 => Is (.int .i64 (y3)) vx
            | 6 => Is (.int .i64 (n)) vx
            | 7 => Is (.int .i64 (y3 - n)) vx
            | 8 => Is (.int .i64 (v)) vx
            | 9 => Is (.int .i64 (v)) vx
            | _ => True)
          (fun _ W => HL w Lb g zs W) TT
          (by kernel_rfl) (by kernel_rfl) (by kernel_rfl) (by kernel_rfl) (by kernel_rfl) rfl hS0 (fun i j v W W' _ h _ => h) ?_ ?_
        · intro i L vals W hi' hφ hS hL hd
          have hi2 : i < 10 := hi'
          clear hi'
          rcases (show i = 0 ∨ i = 1 ∨ i = 2 ∨ i = 3 ∨ i = 4 ∨ i = 5 ∨ i = 6 ∨ i = 7 ∨ i = 8 ∨ i = 9 by omega) with rfl | rfl | rfl | rfl | rfl | rfl | rfl | rfl | rfl | rfl
          · have c0 : W.cell? ⟨w1.heap.size + 1, 0, none⟩ = some (.int .i64 y0) := HL.cell hS mB (i := 0) rfl
            have c1 : W.cell? ⟨w1.heap.size + 1, 1, none⟩ = some (.int .i64 y1) := HL.cell hS mB (i := 1) rfl
            refine wpAt_of rfl rfl ?_
            simp only [frOf, Act.put]
            go_wp2_with fail
            first | exact ⟨trivial, rfl, trivial, hS⟩ | exact ⟨rfl, trivial, hS⟩
          · refine wpAt_of rfl rfl ?_
            simp only [frOf, Act.put]
            go_wp2_with fail
            first | exact ⟨trivial, rfl, trivial, hS⟩ | exact ⟨rfl, trivial, hS⟩
          · refine wpAt_of rfl rfl ?_
            simp only [frOf, Act.put]
            go_wp2_with fail
            first | exact ⟨trivial, rfl, trivial, hS⟩ | exact ⟨rfl, trivial, hS⟩
          · have k1 : vals 1 = .slice (some ⟨g, 0, none⟩) 12 cap := hφ 1 (hd 1 (by decide))
            have k2 : vals 2 = .int .i64 k := hφ 2 (hd 2 (by decide))
            refine wpAt_of rfl rfl ?_
            simp only [frOf, Act.put]
            go_wp2_with fail
            first | exact ⟨trivial, rfl, trivial, hS⟩ | exact ⟨rfl, trivial, hS⟩
          · have k3 : vals 3 = .pointer (some ⟨g, k, none⟩) := hφ 3 (hd 3 (by decide))
            have cy : W.cell? ⟨g, k, none⟩ = some (.int .i64 y) := (HL.cells hS k hlt).trans hy.out
            refine wpAt_of rfl rfl ?_
            simp only [frOf, Act.put]
            go_wp2_with fail
            first | exact ⟨trivial, rfl, trivial, hS⟩ | exact ⟨rfl, trivial, hS⟩
          · have k4 : vals 4 = .int .i64 (y) := hφ 4 (hd 4 (by decide))
            refine wpAt_of rfl rfl ?_
            simp only [frOf, Act.put]
            go_wp2_with fail
            first | exact ⟨trivial, congrArg (Value.int .i64) h3.out, trivial, hS⟩ | exact ⟨congrArg (Value.int .i64) h3.out, trivial, hS⟩
          · refine wpAt_of rfl rfl ?_
            simp only [frOf, Act.put]
            go_wp2_with fail
            first | exact ⟨trivial, rfl, trivial, hS⟩ | exact ⟨rfl, trivial, hS⟩
          · have k5 : vals 5 = .int .i64 (y3) := hφ 5 (hd 5 (by decide))
            have k6 : vals 6 = .int .i64 (n) := hφ 6 (hd 6 (by decide))
            refine wpAt_of rfl rfl ?_
            simp only [frOf, Act.put]
            go_wp2_with fail
            first | exact ⟨trivial, rfl, trivial, hS⟩ | exact ⟨rfl, trivial, hS⟩
          · have k0 : vals 0 = .agg #[.int .i64 y0, .int .i64 y1] := hφ 0 (hd 0 (by decide))
            have k7 : vals 7 = .int .i64 (y3 - n) := hφ 7 (hd 7 (by decide))
            refine wpAt_of rfl rfl ?_
            simp only [frOf, Act.put]
            go_wp2_with fail
            refine (owPick_is _ _ _ v _ okbS.out hv.out).mono ?_
            rintro e W' ⟨rfl, hb⟩
            go_wp2_with fail
            first | exact ⟨trivial, rfl, trivial, HL.next hb hS⟩ | exact ⟨rfl, trivial, HL.next hb hS⟩
          · have k8 : vals 8 = .int .i64 (v) := hφ 8 (hd 8 (by decide))
            refine wpAt_of rfl rfl ?_
            simp only [frOf, Act.put]
            go_wp2_with fail
            first | exact ⟨trivial, rfl, trivial, hS⟩ | exact ⟨rfl, trivial, hS⟩
        · intro L vals W hall hφ hS
          have k0 : vals 0 = .agg #[.int .i64 y0, .int .i64 y1] := hφ 0 (by decide)
          have k1 : vals 1 = .slice (some ⟨g, 0, none⟩) 12 cap := hφ 1 (by decide)
          have k2 : vals 2 = .int .i64 k := hφ 2 (by decide)
          have k3 : vals 3 = .pointer (some ⟨g, k, none⟩) := hφ 3 (by decide)
          have k4 : vals 4 = .int .i64 (y) := hφ 4 (by decide)
          have k5 : vals 5 = .int .i64 (y3) := hφ 5 (by decide)
          have k6 : vals 6 = .int .i64 (n) := hφ 6 (by decide)
          have k7 : vals 7 = .int .i64 (y3 - n) := hφ 7 (by decide)
          have k8 : vals 8 = .int .i64 (v) := hφ 8 (by decide)
          have k9 : vals 9 = .int .i64 (v) := hφ 9 (by decide)
          simp only [frOf, Act.put, List.setIfInBounds_toArray, List.set_cons_succ, List.set_cons_zero, k0, k1, k2, k3, k4, k5, k6, k7, k8, k9]
          clear k0 k1 k2 k3 k4 k5 k6 k7 k8 k9
          clear hall hφ hS0
          go_wp2_with fail
          refine (doI_is _ _ _ m fine _ hm.out hf.out).mono ?_
          rintro e w7 ⟨rfl, b7⟩
          have hS7 := hS.next b7
          clear hS b7
          cases fine
          · go_wp2_with fail
            go_roundw
            case rel => exact ⟨k + 1, by omega, by go_num, hS7⟩
            case measure => simp [intOf]; omega
          · obtain ⟨rfl, hhas⟩ := fin.out rfl
            have hhS : Hid (itvHas ml mh m = true) := hhas
            clear hhas fin
            have x0' : w7.cell? ⟨w3.heap.size, 0, none⟩ = some (.int .i64 ml) := hS7.cell mX (i := 0) rfl
            have x1' : w7.cell? ⟨w3.heap.size, 1, none⟩ = some (.int .i64 mh) := hS7.cell mX (i := 1) rfl
            go_wp2_with fail
            refine (hasI_is _ _ _ true _ hhS.out).mono ?_
            rintro e w8 ⟨rfl, b8⟩
            have hS8 := hS7.next b8
            clear hS7 b8 x0' x1'
            go_wp2_with fail
            go_roundw
            case rel => exact ⟨k + 1, by omega, by go_num, hS8⟩
            case measure => simp [intOf]; omega
    · obtain rfl : k = 12 := by omega
      go_wp2_with (first | (go_at_call 12; refine (owOkT _).mono ?_; rintro e w' ⟨rfl, rfl⟩))
      go_ret
      exact ⟨rfl, hS.below⟩

theorem contract (H : Type) (enc : TypeId × Value → H) (W : World) (base : Nat) (args : Array Value) (ds gs : List (DataW H)) (before : List MemPlace)
    (hval : ∀ (j : Nat) t v, Try.f3.params[j]? = some t → args[j]? = some v → Value.okWide Try.prog W .any base t v)
    (hW : DataW.Whole enc Try.prog Try.f3.params.toList Rows.fnItvDoSpec.vars false W args.toList ds gs before) :
    Calls Try.prog 3 args W fun e W' => ∃ v, e = .returned v ∧ Rows.fnItvDoSpec.post enc Try.prog Try.f3 false true false false W args v W' := by
  have hW' := hW
  obtain ⟨p, q, hA0, hV, rfl, hfz, hnd⟩ := hW
  have hA : DataW.TrodAll enc Try.prog W 0 (fun _ => true) true Try.f3.params.toList args.toList ds p := hA0
  rw [Try.params3] at hA hval
  obtain ⟨v0, vs0, d0, ds0, p0, q0, hargs, rfl, rfl, h0, r0'⟩ := trodAll_cons hA
  obtain ⟨v1, vs1, d1, ds1, p1, q1, rfl, rfl, rfl, h1, r1'⟩ := trodAll_cons r0'
  obtain ⟨rfl, rfl, rfl⟩ := trodAll_nil r1'
  obtain rfl : args = #[v0, v1] := by cases args; simp_all
  obtain ⟨rfl, rfl⟩ := trodVars_none hV
  obtain ⟨a0, len0, cap0, rfl⟩ := okWide_slice Try.underlying22 (hval 0 22 v0 rfl rfl)
  have k0 := h0
  have lt0 : ∀ x ∈ p0, x.block < W.heap.size := by obtain ⟨m, hm⟩ := k0; exact DataW.trod_lt m _ _ _ hm
  obtain ⟨z0, hz0, r0⟩ : ∃ z : Nat → Int, (∀ i, 0 ≤ z i ∧ z i ≤ 255) ∧ Bytes W a0 len0 cap0 z := by
    obtain ⟨fuel, hf⟩ := h0
    rcases open_ints Try.underlying22 Try.underlying5 (by kernel_rfl) hf with ⟨hcs, _⟩ | ⟨x, l, c, zs, hcs, _, hl, hm, hz, _, hcell, hwz⟩
    · simp [Value.cells] at hcs
      obtain ⟨rfl, rfl, rfl⟩ := hcs
      exact ⟨fun _ => 0, fun _ => by simp, .inl rfl⟩
    · simp [Value.cells] at hcs
      obtain ⟨rfl, rfl, rfl⟩ := hcs
      exact bytes_of hl (by simpa using hz) hcell hwz
  obtain ⟨a1, len1, cap1, rfl⟩ := okWide_slice Try.underlying22 (hval 1 22 v1 rfl rfl)
  have k1 := h1
  have lt1 : ∀ x ∈ p1, x.block < W.heap.size := by obtain ⟨m, hm⟩ := k1; exact DataW.trod_lt m _ _ _ hm
  obtain ⟨z1, hz1, r1⟩ : ∃ z : Nat → Int, (∀ i, 0 ≤ z i ∧ z i ≤ 255) ∧ Bytes W a1 len1 cap1 z := by
    obtain ⟨fuel, hf⟩ := h1
    rcases open_ints Try.underlying22 Try.underlying5 (by kernel_rfl) hf with ⟨hcs, _⟩ | ⟨x, l, c, zs, hcs, _, hl, hm, hz, _, hcell, hwz⟩
    · simp [Value.cells] at hcs
      obtain ⟨rfl, rfl, rfl⟩ := hcs
      exact ⟨fun _ => 0, fun _ => by simp, .inl rfl⟩
    · simp [Value.cells] at hcs
      obtain ⟨rfl, rfl, rfl⟩ := hcs
      exact bytes_of hl (by simpa using hz) hcell hwz
  clear hA0
  refine (walk a0 len0 cap0 z0 a1 len1 cap1 z1 W hz0 r0 hz1 r1).mono fun e W' ⟨he, bel⟩ => ?_
  subst he
  exact ⟨_, rfl, _, _, _, [], _, [], hW', trodAll_mk1 (shut_bool Try.underlying4 _), (trodAll_cons_mk (Below.trod laidOut (by kernel_rfl) (of_decide_eq_true (by kernel_rfl)) k0 bel lt0) (trodAll_cons_mk (Below.trod laidOut (by kernel_rfl) (of_decide_eq_true (by kernel_rfl)) k1 bel lt1) trodAll_mk0)), rfl, bel.frame _, fun h => by cases h⟩

set_option maxRecDepth 100000 in
theorem lifted (os : Os) (started : os.Started) (H : Type) (enc : TypeId × Value → H) :
    ReturnsInHanded {} Try.checked os 3 .any (Rows.fnItvDoSpec.pre6 enc Try.prog Try.f3 Rows.fnItvDoRow.domain false) (Rows.fnItvDoSpec.post enc Try.prog Try.f3 false true false false) := by
  refine returnsInHanded_of_change (C := Try.checked) own started (by kernel_rfl) Try.func3
    (ChangeSpec.witness6 (enc := enc) (C := Try.checked) false ⟨#[], #[.slice none 0 0, .slice none 0 0], []⟩ 8 (by kernel_rfl) (by kernel_rfl) (by kernel_rfl) (by kernel_rfl)) ?_
  intro W base args ds gs before hval hW _ _
  exact contract H enc W base args ds gs before hval hW

theorem proved : Rows.FnItvDoSaid :=
  OpenClaim.holds_of_wide 3 Try.f3 rfl rfl rfl rfl rfl rfl rfl ⟨rfl, rfl, rfl, rfl, rfl⟩ rfl rfl rfl rfl rfl (by kernel_rfl) Try.func3 (by kernel_rfl)
    (of_decide_eq_true (by kernel_rfl)) (by unfold Func.isWrapper; first | (rw [if_pos (by decide +kernel)]; kernel_rfl) | (rw [if_neg (by decide +kernel)]; exact ⟨rfl, rfl⟩))
    (fun os started H enc _ => lifted os started H enc)
#print axioms proved
end Go.Proofs.Ytceanngbcolbaaa.fnItvDo
