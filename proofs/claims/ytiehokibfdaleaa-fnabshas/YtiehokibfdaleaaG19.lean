/- AbsHas, the model's and the program's: they answer what the plain absHas says; they make memory of their own alone. -/
import Derived.Test.YtiehokibfdaleaaG9
import Derived.Test.YtiehokibfdaleaaG11
import Derived.Test.YtiehokibfdaleaaG8
namespace Go.Proofs.Ytiehokibfdaleaa
open Go.ChangeShapes Go.WideShapes Go.ChangeAt Go.RowKit

def absHas (on : Bool) (n : Nat) (lo hi : Nat → Int) (c d : Int) (n1 : Nat) (z : Nat → Int) (n2 : Nat) (y : Nat → Int) : Bool :=
  absOk on n lo hi c d && on && decide (n1 = 4) && decide (n2 = 4) && hasTo lo hi z 4 && hasTo (fun _ => c) (fun _ => d) y 4

set_option maxRecDepth 10000 in
set_option maxHeartbeats 8000000 in
theorem absHasS (on : Bool) (a : Option Addr) (b off n cap : Nat) (lo hi : Nat → Int) (c d : Int) (a1 : Option Addr) (b1 off1 n1 cap1 : Nat) (z : Nat → Int) (a2 : Option Addr) (b2 off2 n2 cap2 : Nat) (y : Nat → Int) (w : World) (hC : BndsAt a b off n lo hi w) (h1 : IntsAt a1 b1 off1 n1 z w) (h2 : IntsAt a2 b2 off2 n2 y w) :
    Calls Try.prog 16 #[.agg #[.bool on, .slice a n cap, .int .i64 c, .int .i64 d], .slice a1 n1 cap1, .slice a2 n2 cap2] w fun e w' => e = .returned (.bool (absHas on n lo hi c d n1 z n2 y)) ∧ Below w.heap.size w w' := by
  have H : HeldL w [(w.heap.size, [Value.bool on, .slice a n cap, .int .i64 c, .int .i64 d])] (w.alloc (.cells #[.bool on, .slice a n cap, .int .i64 c, .int .i64 d] 27)) := HeldL.newL (vs := [Value.bool on, .slice a n cap, .int .i64 c, .int .i64 d]) (HeldL.nil w)
  obtain ⟨Lb, hLb⟩ : ∃ L, L = [(w.heap.size, [Value.bool on, .slice a n cap, .int .i64 c, .int .i64 d])] := ⟨_, rfl⟩
  have m0 : (w.heap.size, [Value.bool on, .slice a n cap, .int .i64 c, .int .i64 d]) ∈ Lb := by rw [hLb]; simp
  rw [← hLb] at H
  clear hLb
  have I := hC.next H.below
  have J := h1.next H.below
  have K := h2.next H.below
  clear hC h1 h2
  go_enter Try.func16, Try.ntmps16
  go_wp2_with fail
  refine (absOkS _ _ _ _ _ _ _ _ _ _ _ I).mono ?_
  rintro e w1 ⟨rfl, hb⟩
  replace H := H.next hb
  replace I := I.next hb
  replace J := J.next hb
  replace K := K.next hb
  clear hb
  have c0 := H.cell m0 (i := 0) rfl
  dsimp only at c0
  cases g : absOk on n lo hi c d
  · go_wp2_with fail
    go_ret
    exact ⟨ret_bool (by simp [absHas, g]), H.below⟩
  cases on
  · go_wp2_with fail
    go_ret
    exact ⟨ret_bool (by simp [absHas]), H.below⟩
  by_cases q1 : n1 = 4
  case neg =>
    have q1' : ¬ (n1 : Int) = 4 := by omega
    go_wp2_with fail
    go_ret
    exact ⟨ret_bool (by simp [absHas, q1]), H.below⟩
  by_cases q2 : n2 = 4
  case neg =>
    have q2' : ¬ (n2 : Int) = 4 := by omega
    have q1' : (n1 : Int) = 4 := by omega
    go_wp2_with fail
    go_ret
    exact ⟨ret_bool (by simp [absHas, q2]), H.below⟩
  obtain rfl : n = 4 := by simp [absOk] at g; exact g.1
  subst q1 q2
  have e0 := I.at_ (by omega)
  have e1 := J.at_ (by omega)
  have e2 := K.at_ (by omega)
  subst e0 e1 e2
  have hR : Hid (absHas true 4 lo hi c d 4 z 4 y = (hasTo lo hi z 4 && hasTo (fun _ => c) (fun _ => d) y 4)) := (by simp [absHas, g] : _ = _)
  clear g
  go_wp2_with fail
  clear c0
  go_loopw [7] (fun i wr => ∃ k : Nat, k ≤ 4 ∧ i = .int .i64 k ∧ Hid (hasTo lo hi z k = true) ∧ HeldL w Lb wr ∧ BndsAt (some ⟨b, off, none⟩) b off 4 lo hi wr ∧ IntsAt (some ⟨b1, off1, none⟩) b1 off1 4 z wr ∧ IntsAt (some ⟨b2, off2, none⟩) b2 off2 4 y wr) (fun i _ => 4 - (intOf i).toNat)
  case atStart => exact ⟨0, Nat.zero_le _, rfl, (rfl : _ = _), H, I, J, K⟩
  case round =>
    clear H I J K
    obtain ⟨k, hk, rfl, hO, H, I, J, K⟩ := hrel
    by_cases hlt : k < 4
    · have t1 : ((k : Int)).toNat = k := by omega
      have t2 : (0 : Int) ≤ (k : Int) := by omega
      have t3 : (k : Int) < 4 := by omega
      obtain ⟨q, hq'⟩ : ∃ q, itvHas (lo k) (hi k) (z k) = q := ⟨_, rfl⟩
      have hq : Hid (itvHas (lo k) (hi k) (z k) = q) := hq'
      clear hq'
      have hS0 : HX w wr Lb wr.drew := ⟨H.drew, (Below.refl _ wr).drew⟩
      clear H
      go_wp2_with fail
      refine region_inv3 [(0, 31), (1, 32), (2, 33), (3, 34), (4, 35), (5, 36), (6, 37), (7, 38), (8, 39), (9, 40), (10, 41)]
        (fun j v _ => match j with
          | 0 => Is (.pointer (some ⟨w.heap.size, 1, none⟩)) v
          | 1 => Is (.slice (some ⟨b, off, none⟩) 4 cap) v
          | 2 => Is (.int .i64 k) v
          | 3 => Is (.pointer (some ⟨b, off + k * 2, none⟩)) v
          | 4 => Is (.agg #[.int .i64 (lo k), .int .i64 (hi k)]) v
          | 5 => Is (.slice (some ⟨b1, off1, none⟩) 4 cap1) v
          | 6 => Is (.int .i64 k) v
          | 7 => Is (.pointer (some ⟨b1, off1 + k, none⟩)) v
          | 8 => Is (.int .i64 (z k)) v
          | 9 => Is (.bool q) v
          | 10 => Is (.bool !q) v
          | _ => True)
        (fun _ W => HX w wr Lb W) TT
        (by kernel_rfl) (by kernel_rfl) (by kernel_rfl) (by kernel_rfl) (by kernel_rfl) rfl hS0 (fun i j v W W' _ h _ => h) ?_ ?_
      · intro i L vals W hi' hφ hS hL hd
        have hi2 : i < 11 := hi'
        clear hi'
        rcases (show i = 0 ∨ i = 1 ∨ i = 2 ∨ i = 3 ∨ i = 4 ∨ i = 5 ∨ i = 6 ∨ i = 7 ∨ i = 8 ∨ i = 9 ∨ i = 10 by omega) with rfl | rfl | rfl | rfl | rfl | rfl | rfl | rfl | rfl | rfl | rfl
        · refine wpAt_of rfl rfl ?_
          simp only [frOf, Act.put]
          go_wp2_with fail
          first | exact ⟨trivial, rfl, trivial, hS⟩ | exact ⟨rfl, trivial, hS⟩ | exact ⟨trivial, rfl, trivial⟩ | exact ⟨rfl, trivial⟩ | exact rfl
        · have k0 : vals 0 = .pointer (some ⟨w.heap.size, 1, none⟩) := hφ 0 (hd 0 (by decide))
          have c1 := hS.cell m0 (i := 1) rfl
          dsimp only at c1
          refine wpAt_of rfl rfl ?_
          simp only [frOf, Act.put]
          go_wp2_with fail
          first | exact ⟨trivial, rfl, trivial, hS⟩ | exact ⟨rfl, trivial, hS⟩ | exact ⟨trivial, rfl, trivial⟩ | exact ⟨rfl, trivial⟩ | exact rfl
        · refine wpAt_of rfl rfl ?_
          simp only [frOf, Act.put]
          go_wp2_with fail
          first | exact ⟨trivial, rfl, trivial, hS⟩ | exact ⟨rfl, trivial, hS⟩ | exact ⟨trivial, rfl, trivial⟩ | exact ⟨rfl, trivial⟩ | exact rfl
        · have k1 : vals 1 = .slice (some ⟨b, off, none⟩) 4 cap := hφ 1 (hd 1 (by decide))
          have k2 : vals 2 = .int .i64 k := hφ 2 (hd 2 (by decide))
          refine wpAt_of rfl rfl ?_
          simp only [frOf, Act.put]
          go_wp2_with fail
          first | exact ⟨trivial, rfl, trivial, hS⟩ | exact ⟨rfl, trivial, hS⟩ | exact ⟨trivial, rfl, trivial⟩ | exact ⟨rfl, trivial⟩ | exact rfl
        · have k3 : vals 3 = .pointer (some ⟨b, off + k * 2, none⟩) := hφ 3 (hd 3 (by decide))
          have dd := I.next hS.beh
          have d0 := dd.lo k hlt
          have d1 := dd.hi k hlt
          clear dd
          refine wpAt_of rfl rfl ?_
          simp only [frOf, Act.put]
          go_wp2_with fail
          first | exact ⟨trivial, rfl, trivial, hS⟩ | exact ⟨rfl, trivial, hS⟩ | exact ⟨trivial, rfl, trivial⟩ | exact ⟨rfl, trivial⟩ | exact rfl
        · refine wpAt_of rfl rfl ?_
          simp only [frOf, Act.put]
          go_wp2_with fail
          first | exact ⟨trivial, rfl, trivial, hS⟩ | exact ⟨rfl, trivial, hS⟩ | exact ⟨trivial, rfl, trivial⟩ | exact ⟨rfl, trivial⟩ | exact rfl
        · refine wpAt_of rfl rfl ?_
          simp only [frOf, Act.put]
          go_wp2_with fail
          first | exact ⟨trivial, rfl, trivial, hS⟩ | exact ⟨rfl, trivial, hS⟩ | exact ⟨trivial, rfl, trivial⟩ | exact ⟨rfl, trivial⟩ | exact rfl
        · have k5 : vals 5 = .slice (some ⟨b1, off1, none⟩) 4 cap1 := hφ 5 (hd 5 (by decide))
          have k6 : vals 6 = .int .i64 k := hφ 6 (hd 6 (by decide))
          refine wpAt_of rfl rfl ?_
          simp only [frOf, Act.put]
          go_wp2_with fail
          first | exact ⟨trivial, rfl, trivial, hS⟩ | exact ⟨rfl, trivial, hS⟩ | exact ⟨trivial, rfl, trivial⟩ | exact ⟨rfl, trivial⟩ | exact rfl
        · have k7 : vals 7 = .pointer (some ⟨b1, off1 + k, none⟩) := hφ 7 (hd 7 (by decide))
          have d0 := (J.next hS.beh).cell k hlt
          refine wpAt_of rfl rfl ?_
          simp only [frOf, Act.put]
          go_wp2_with fail
          first | exact ⟨trivial, rfl, trivial, hS⟩ | exact ⟨rfl, trivial, hS⟩ | exact ⟨trivial, rfl, trivial⟩ | exact ⟨rfl, trivial⟩ | exact rfl
        · have k4 : vals 4 = .agg #[.int .i64 (lo k), .int .i64 (hi k)] := hφ 4 (hd 4 (by decide))
          have k8 : vals 8 = .int .i64 (z k) := hφ 8 (hd 8 (by decide))
          refine wpAt_of rfl rfl ?_
          simp only [frOf, Act.put]
          go_wp2_with fail
          refine (itvHasS _ _ _ _).mono ?_
          rintro e W' ⟨rfl, hb⟩
          rw [hq.out]
          go_wp2_with fail
          first | exact ⟨trivial, rfl, trivial, HX.next hb hS⟩ | exact ⟨rfl, trivial, HX.next hb hS⟩ | exact ⟨trivial, rfl, trivial⟩ | exact ⟨rfl, trivial⟩ | exact rfl
        · have k9 : vals 9 = .bool q := hφ 9 (hd 9 (by decide))
          refine wpAt_of rfl rfl ?_
          simp only [frOf, Act.put]
          go_wp2_with fail
          first | exact ⟨trivial, rfl, trivial, hS⟩ | exact ⟨rfl, trivial, hS⟩ | exact ⟨trivial, rfl, trivial⟩ | exact ⟨rfl, trivial⟩ | exact rfl
      · intro L vals W hall hφ hS
        have k0 : vals 0 = .pointer (some ⟨w.heap.size, 1, none⟩) := hφ 0 (by decide)
        have k1 : vals 1 = .slice (some ⟨b, off, none⟩) 4 cap := hφ 1 (by decide)
        have k2 : vals 2 = .int .i64 k := hφ 2 (by decide)
        have k3 : vals 3 = .pointer (some ⟨b, off + k * 2, none⟩) := hφ 3 (by decide)
        have k4 : vals 4 = .agg #[.int .i64 (lo k), .int .i64 (hi k)] := hφ 4 (by decide)
        have k5 : vals 5 = .slice (some ⟨b1, off1, none⟩) 4 cap1 := hφ 5 (by decide)
        have k6 : vals 6 = .int .i64 k := hφ 6 (by decide)
        have k7 : vals 7 = .pointer (some ⟨b1, off1 + k, none⟩) := hφ 7 (by decide)
        have k8 : vals 8 = .int .i64 (z k) := hφ 8 (by decide)
        have k9 : vals 9 = .bool q := hφ 9 (by decide)
        have k10 : vals 10 = .bool !q := hφ 10 (by decide)
        simp only [frOf, Act.put, List.setIfInBounds_toArray, List.set_cons_succ, List.set_cons_zero, k0, k1, k2, k3, k4, k5, k6, k7, k8, k9, k10]
        clear k0 k1 k2 k3 k4 k5 k6 k7 k8 k9 k10 hall hφ hS0
        have H := hS.1
        replace I := I.next hS.2
        replace J := J.next hS.2
        replace K := K.next hS.2
        clear hS
        cases q
        · go_wp2_with fail
          go_ret
          exact ⟨ret_bool (by rw [hR.out, hasTo_false hlt hq.out]; simp), H.below⟩
        · go_wp2_with fail
          go_roundw
          case rel => exact ⟨k + 1, by omega, by go_num, (by simp only [hasTo, hO.out, hq.out, Bool.and_self] : _ = _), H, I, J, K⟩
          case measure => simp [intOf]; omega
    · obtain rfl : k = 4 := by omega
      have hO1 := hO
      clear hO
      go_wp2_with fail
      go_loopw [8] (fun i wr => ∃ k : Nat, k ≤ 4 ∧ i = .int .i64 k ∧ Hid (hasTo (fun _ => c) (fun _ => d) y k = true) ∧ HeldL w Lb wr ∧ BndsAt (some ⟨b, off, none⟩) b off 4 lo hi wr ∧ IntsAt (some ⟨b1, off1, none⟩) b1 off1 4 z wr ∧ IntsAt (some ⟨b2, off2, none⟩) b2 off2 4 y wr) (fun i _ => 4 - (intOf i).toNat)
      case atStart => exact ⟨0, Nat.zero_le _, rfl, (rfl : _ = _), H, I, J, K⟩
      case round =>
        clear H I J K
        obtain ⟨k, hk, rfl, hO, H, I, J, K⟩ := hrel
        by_cases hlt : k < 4
        · have t1 : ((k : Int)).toNat = k := by omega
          have t2 : (0 : Int) ≤ (k : Int) := by omega
          have t3 : (k : Int) < 4 := by omega
          obtain ⟨q, hq'⟩ : ∃ q, itvHas c d (y k) = q := ⟨_, rfl⟩
          have hq : Hid (itvHas c d (y k) = q) := hq'
          clear hq'
          have hS0 : HX w wr Lb wr.drew := ⟨H.drew, (Below.refl _ wr).drew⟩
          clear H
          go_wp2_with fail
          refine region_inv3 [(0, 46), (1, 47), (2, 48), (3, 49), (4, 50), (5, 51), (6, 52), (7, 53)]
            (fun j v _ => match j with
              | 0 => Is (.pointer (some ⟨w.heap.size, 2, none⟩)) v
              | 1 => Is (.agg #[.int .i64 c, .int .i64 d]) v
              | 2 => Is (.slice (some ⟨b2, off2, none⟩) 4 cap2) v
              | 3 => Is (.int .i64 k) v
              | 4 => Is (.pointer (some ⟨b2, off2 + k, none⟩)) v
              | 5 => Is (.int .i64 (y k)) v
              | 6 => Is (.bool q) v
              | 7 => Is (.bool !q) v
              | _ => True)
            (fun _ W => HX w wr Lb W) TT
            (by kernel_rfl) (by kernel_rfl) (by kernel_rfl) (by kernel_rfl) (by kernel_rfl) rfl hS0 (fun i j v W W' _ h _ => h) ?_ ?_
          · intro i L vals W hi' hφ hS hL hd
            have hi2 : i < 8 := hi'
            clear hi'
            rcases (show i = 0 ∨ i = 1 ∨ i = 2 ∨ i = 3 ∨ i = 4 ∨ i = 5 ∨ i = 6 ∨ i = 7 by omega) with rfl | rfl | rfl | rfl | rfl | rfl | rfl | rfl
            · refine wpAt_of rfl rfl ?_
              simp only [frOf, Act.put]
              go_wp2_with fail
              first | exact ⟨trivial, rfl, trivial, hS⟩ | exact ⟨rfl, trivial, hS⟩ | exact ⟨trivial, rfl, trivial⟩ | exact ⟨rfl, trivial⟩ | exact rfl
            · have k0 : vals 0 = .pointer (some ⟨w.heap.size, 2, none⟩) := hφ 0 (hd 0 (by decide))
              have c2 := hS.cell m0 (i := 2) rfl
              have c3 := hS.cell m0 (i := 3) rfl
              dsimp only at c2 c3
              refine wpAt_of rfl rfl ?_
              simp only [frOf, Act.put]
              go_wp2_with fail
              first | exact ⟨trivial, rfl, trivial, hS⟩ | exact ⟨rfl, trivial, hS⟩ | exact ⟨trivial, rfl, trivial⟩ | exact ⟨rfl, trivial⟩ | exact rfl
            · refine wpAt_of rfl rfl ?_
              simp only [frOf, Act.put]
              go_wp2_with fail
              first | exact ⟨trivial, rfl, trivial, hS⟩ | exact ⟨rfl, trivial, hS⟩ | exact ⟨trivial, rfl, trivial⟩ | exact ⟨rfl, trivial⟩ | exact rfl
            · refine wpAt_of rfl rfl ?_
              simp only [frOf, Act.put]
              go_wp2_with fail
              first | exact ⟨trivial, rfl, trivial, hS⟩ | exact ⟨rfl, trivial, hS⟩ | exact ⟨trivial, rfl, trivial⟩ | exact ⟨rfl, trivial⟩ | exact rfl
            · have k2 : vals 2 = .slice (some ⟨b2, off2, none⟩) 4 cap2 := hφ 2 (hd 2 (by decide))
              have k3 : vals 3 = .int .i64 k := hφ 3 (hd 3 (by decide))
              refine wpAt_of rfl rfl ?_
              simp only [frOf, Act.put]
              go_wp2_with fail
              first | exact ⟨trivial, rfl, trivial, hS⟩ | exact ⟨rfl, trivial, hS⟩ | exact ⟨trivial, rfl, trivial⟩ | exact ⟨rfl, trivial⟩ | exact rfl
            · have k4 : vals 4 = .pointer (some ⟨b2, off2 + k, none⟩) := hφ 4 (hd 4 (by decide))
              have d0 := (K.next hS.beh).cell k hlt
              refine wpAt_of rfl rfl ?_
              simp only [frOf, Act.put]
              go_wp2_with fail
              first | exact ⟨trivial, rfl, trivial, hS⟩ | exact ⟨rfl, trivial, hS⟩ | exact ⟨trivial, rfl, trivial⟩ | exact ⟨rfl, trivial⟩ | exact rfl
            · have k1 : vals 1 = .agg #[.int .i64 c, .int .i64 d] := hφ 1 (hd 1 (by decide))
              have k5 : vals 5 = .int .i64 (y k) := hφ 5 (hd 5 (by decide))
              refine wpAt_of rfl rfl ?_
              simp only [frOf, Act.put]
              go_wp2_with fail
              refine (itvHasS _ _ _ _).mono ?_
              rintro e W' ⟨rfl, hb⟩
              rw [hq.out]
              go_wp2_with fail
              first | exact ⟨trivial, rfl, trivial, HX.next hb hS⟩ | exact ⟨rfl, trivial, HX.next hb hS⟩ | exact ⟨trivial, rfl, trivial⟩ | exact ⟨rfl, trivial⟩ | exact rfl
            · have k6 : vals 6 = .bool q := hφ 6 (hd 6 (by decide))
              refine wpAt_of rfl rfl ?_
              simp only [frOf, Act.put]
              go_wp2_with fail
              first | exact ⟨trivial, rfl, trivial, hS⟩ | exact ⟨rfl, trivial, hS⟩ | exact ⟨trivial, rfl, trivial⟩ | exact ⟨rfl, trivial⟩ | exact rfl
          · intro L vals W hall hφ hS
            have k0 : vals 0 = .pointer (some ⟨w.heap.size, 2, none⟩) := hφ 0 (by decide)
            have k1 : vals 1 = .agg #[.int .i64 c, .int .i64 d] := hφ 1 (by decide)
            have k2 : vals 2 = .slice (some ⟨b2, off2, none⟩) 4 cap2 := hφ 2 (by decide)
            have k3 : vals 3 = .int .i64 k := hφ 3 (by decide)
            have k4 : vals 4 = .pointer (some ⟨b2, off2 + k, none⟩) := hφ 4 (by decide)
            have k5 : vals 5 = .int .i64 (y k) := hφ 5 (by decide)
            have k6 : vals 6 = .bool q := hφ 6 (by decide)
            have k7 : vals 7 = .bool !q := hφ 7 (by decide)
            simp only [frOf, Act.put, List.setIfInBounds_toArray, List.set_cons_succ, List.set_cons_zero, k0, k1, k2, k3, k4, k5, k6, k7]
            clear k0 k1 k2 k3 k4 k5 k6 k7 hall hφ hS0
            have H := hS.1
            replace I := I.next hS.2
            replace J := J.next hS.2
            replace K := K.next hS.2
            clear hS
            cases q
            · go_wp2_with fail
              go_ret
              exact ⟨ret_bool (by rw [hR.out, hasTo_false (lo := fun _ => c) (hi := fun _ => d) hlt hq.out]; simp), H.below⟩
            · go_wp2_with fail
              go_roundw
              case rel => exact ⟨k + 1, by omega, by go_num, (by simp only [hasTo, hO.out, hq.out, Bool.and_self] : _ = _), H, I, J, K⟩
              case measure => simp [intOf]; omega
        · obtain rfl : k = 4 := by omega
          go_wp2_with fail
          go_ret
          exact ⟨ret_bool (by rw [hR.out, hO1.out, hO.out]; rfl), H.below⟩

set_option maxHeartbeats 4000000 in
theorem comesI (on : Bool) (a : Option Addr) (b off n cap : Nat) (lo hi : Nat → Int) (c d : Int) (w : World) (hn : n ≤ 1048576) (hC : BndsAt a b off n lo hi w) :
    Calls Try.prog 39 #[.agg #[.bool on, .slice a n cap, .int .i64 c, .int .i64 d]] w fun e w' => e = .returned (.bool (on && absOk on n lo hi c d)) ∧ Below w.heap.size w w' := by
  have b0 : Below w.heap.size w (w.alloc (.cells #[.bool on, .slice a n cap, .int .i64 c, .int .i64 d] 27)) := (Below.refl _ _).alloc (Nat.le_refl _) _
  cases on
  · go_enter Try.func39, Try.ntmps39
    go_wp2_with fail
    go_ret
    exact ⟨rfl, b0⟩
  · go_enter Try.func39, Try.ntmps39
    go_wp2_with fail
    refine (absOkI _ _ _ _ _ _ _ _ _ _ _ hn (hC.next b0)).mono ?_
    rintro e w1 ⟨rfl, hb⟩
    go_wp2_with fail
    go_ret
    exact ⟨ret_bool (by simp), below_tr b0 hb⟩

set_option maxRecDepth 10000 in
set_option maxHeartbeats 8000000 in
theorem absHasI (on : Bool) (a : Option Addr) (b off n cap : Nat) (lo hi : Nat → Int) (c d : Int) (a1 : Option Addr) (b1 off1 n1 cap1 : Nat) (z : Nat → Int) (a2 : Option Addr) (b2 off2 n2 cap2 : Nat) (y : Nat → Int) (w : World) (hn : n ≤ 1048576) (hn1 : n1 ≤ 1048576) (hn2 : n2 ≤ 1048576) (hC : BndsAt a b off n lo hi w) (h1 : IntsAt a1 b1 off1 n1 z w) (h2 : IntsAt a2 b2 off2 n2 y w) :
    Calls Try.prog 15 #[.agg #[.bool on, .slice a n cap, .int .i64 c, .int .i64 d], .slice a1 n1 cap1, .slice a2 n2 cap2] w fun e w' => e = .returned (.bool (absHas on n lo hi c d n1 z n2 y)) ∧ Below w.heap.size w w' := by
  have H : HeldL w [(w.heap.size, [Value.bool on, .slice a n cap, .int .i64 c, .int .i64 d])] (w.alloc (.cells #[.bool on, .slice a n cap, .int .i64 c, .int .i64 d] 27)) := HeldL.newL (vs := [Value.bool on, .slice a n cap, .int .i64 c, .int .i64 d]) (HeldL.nil w)
  obtain ⟨Lb, hLb⟩ : ∃ L, L = [(w.heap.size, [Value.bool on, .slice a n cap, .int .i64 c, .int .i64 d])] := ⟨_, rfl⟩
  have m0 : (w.heap.size, [Value.bool on, .slice a n cap, .int .i64 c, .int .i64 d]) ∈ Lb := by rw [hLb]; simp
  rw [← hLb] at H
  clear hLb
  have I := hC.next H.below
  have J := h1.next H.below
  have K := h2.next H.below
  clear hC h1 h2
  go_enter Try.func15, Try.ntmps15
  go_wp2_with fail
  refine (comesI _ _ _ _ _ _ _ _ _ _ _ hn I).mono ?_
  rintro e w1 ⟨rfl, hb⟩
  replace H := H.next hb
  replace I := I.next hb
  replace J := J.next hb
  replace K := K.next hb
  clear hb
  cases g : absOk on n lo hi c d
  · have e3 : (on && false) = false := by simp
    rw [e3]
    go_wp2_with fail
    go_ret
    exact ⟨ret_bool (by simp [absHas, g]), H.below⟩
  rw [Bool.and_true]
  cases on
  · go_wp2_with fail
    go_ret
    exact ⟨ret_bool (by simp [absHas]), H.below⟩
  by_cases q1 : n1 = 4
  case neg =>
    have q1' : ¬ (n1 : Int) = 4 := by omega
    go_wp2_with fail
    go_ret
    exact ⟨ret_bool (by simp [absHas, q1]), H.below⟩
  by_cases q2 : n2 = 4
  case neg =>
    have q2' : ¬ (n2 : Int) = 4 := by omega
    have q1' : (n1 : Int) = 4 := by omega
    go_wp2_with fail
    go_ret
    exact ⟨ret_bool (by simp [absHas, q2]), H.below⟩
  obtain rfl : n = 4 := by simp [absOk] at g; exact g.1
  subst q1 q2
  have e0 := I.at_ (by omega)
  have e1 := J.at_ (by omega)
  have e2 := K.at_ (by omega)
  subst e0 e1 e2
  have hR : Hid (absHas true 4 lo hi c d 4 z 4 y = (hasTo lo hi z 4 && hasTo (fun _ => c) (fun _ => d) y 4)) := (by simp [absHas, g] : _ = _)
  clear g
  clear hn hn1 hn2
  go_wp2_with fail
  go_loopw [26] (fun i wr => ∃ k : Nat, k ≤ 4 ∧ i = .int .i64 k ∧ Hid (hasTo lo hi z k = true) ∧ HeldL w Lb wr ∧ BndsAt (some ⟨b, off, none⟩) b off 4 lo hi wr ∧ IntsAt (some ⟨b1, off1, none⟩) b1 off1 4 z wr ∧ IntsAt (some ⟨b2, off2, none⟩) b2 off2 4 y wr) (fun i _ => 4 - (intOf i).toNat)
  case atStart => exact ⟨0, Nat.zero_le _, rfl, (rfl : _ = _), H, I, J, K⟩
  case round =>
    clear H I J K
    obtain ⟨k, hk, rfl, hO, H, I, J, K⟩ := hrel
    by_cases hlt : k < 4
    · have t1 : ((k : Int)).toNat = k := by omega
      have t2 : (0 : Int) ≤ (k : Int) := by omega
      have t3 : (k : Int) < 4 := by omega
      obtain ⟨q, hq'⟩ : ∃ q, itvHas (lo k) (hi k) (z k) = q := ⟨_, rfl⟩
      have hq : Hid (itvHas (lo k) (hi k) (z k) = q) := hq'
      clear hq'
      have c1 := H.cell m0 (i := 1) rfl
      dsimp only at c1
      have d0 := J.cell k hlt
      have d1 := I.lo k hlt
      have d2 := I.hi k hlt
      go_wp2_with fail
      refine (itvHasI _ _ _ _).mono ?_
      rintro e w3 ⟨rfl, hb⟩
      rw [hq.out]
      replace H := H.next hb
      replace I := I.next hb
      replace J := J.next hb
      replace K := K.next hb
      clear hb c1 d0
      cases q
      · go_wp2_with fail
        go_ret
        exact ⟨ret_bool (by rw [hR.out, hasTo_false hlt hq.out]; simp), H.below⟩
      · go_wp2_with fail
        go_roundw
        case rel => exact ⟨k + 1, by omega, by go_num, (by simp only [hasTo, hO.out, hq.out, Bool.and_self] : _ = _), H, I, J, K⟩
        case measure => simp [intOf]; omega
    · obtain rfl : k = 4 := by omega
      have hO1 := hO
      clear hO
      go_wp2_with fail
      go_loopw [42] (fun i wr => ∃ k : Nat, k ≤ 4 ∧ i = .int .i64 k ∧ Hid (hasTo (fun _ => c) (fun _ => d) y k = true) ∧ HeldL w Lb wr ∧ BndsAt (some ⟨b, off, none⟩) b off 4 lo hi wr ∧ IntsAt (some ⟨b1, off1, none⟩) b1 off1 4 z wr ∧ IntsAt (some ⟨b2, off2, none⟩) b2 off2 4 y wr) (fun i _ => 4 - (intOf i).toNat)
      case atStart => exact ⟨0, Nat.zero_le _, rfl, (rfl : _ = _), H, I, J, K⟩
      case round =>
        clear H I J K
        obtain ⟨k, hk, rfl, hO, H, I, J, K⟩ := hrel
        by_cases hlt : k < 4
        · have t1 : ((k : Int)).toNat = k := by omega
          have t2 : (0 : Int) ≤ (k : Int) := by omega
          have t3 : (k : Int) < 4 := by omega
          obtain ⟨q, hq'⟩ : ∃ q, itvHas c d (y k) = q := ⟨_, rfl⟩
          have hq : Hid (itvHas c d (y k) = q) := hq'
          clear hq'
          have c1 := H.cell m0 (i := 2) rfl
          have c3 := H.cell m0 (i := 3) rfl
          dsimp only at c1 c3
          have d0 := K.cell k hlt
          go_wp2_with fail
          refine (itvHasI _ _ _ _).mono ?_
          rintro e w3 ⟨rfl, hb⟩
          rw [hq.out]
          replace H := H.next hb
          replace I := I.next hb
          replace J := J.next hb
          replace K := K.next hb
          clear hb c1 d0
          cases q
          · go_wp2_with fail
            go_ret
            exact ⟨ret_bool (by rw [hR.out, hasTo_false (lo := fun _ => c) (hi := fun _ => d) hlt hq.out]; simp), H.below⟩
          · go_wp2_with fail
            go_roundw
            case rel =>
              refine ⟨_, _, _, _, _, _, _, _, _, _, _, _, ?_, rfl⟩
              exact ⟨k + 1, by omega, by go_num, (by simp only [hasTo, hO.out, hq.out, Bool.and_self] : _ = _), H, I, J, K⟩
            case measure => simp [intOf]; omega
        · obtain rfl : k = 4 := by omega
          go_wp2_with fail
          go_ret
          exact ⟨ret_bool (by rw [hR.out, hO1.out, hO.out]; rfl), H.below⟩
end Go.Proofs.Ytiehokibfdaleaa
