/- AbsIn, the model's and the program's: they answer what the plain absIn says; they make memory of their own alone. -/
import Derived.Test.YtiehokibfdaleaaG12
namespace Go.Proofs.Ytiehokibfdaleaa
open Go.ChangeShapes Go.WideShapes Go.ChangeAt Go.RowKit
set_option linter.unusedVariables false

def absIn (on : Bool) (n : Nat) (lo hi : Nat → Int) (c d : Int) (on' : Bool) (n' : Nat) (lo' hi' : Nat → Int) (c' d' : Int) : Bool :=
  absOk on n lo hi c d && (absOk on' n' lo' hi' c' d' && (match on, on' with
    | false, _ => true
    | true, false => false
    | true, true => itvIn c d c' d' && inTo lo hi lo' hi' 4))
set_option maxRecDepth 10000 in
set_option maxHeartbeats 8000000 in
theorem absInI_0 (on : Bool) (a : Option Addr) (b off n cap : Nat) (lo hi : Nat → Int) (c d : Int) (on' : Bool) (a' : Option Addr) (b' off' n' cap' : Nat) (lo' hi' : Nat → Int) (c' d' : Int) (w : World) (hn : n ≤ 1048576) (hn' : n' ≤ 1048576) (hC : BndsAt a b off n lo hi w) (hD : BndsAt a' b' off' n' lo' hi' w) (g : Hid (absOk on n lo hi c d = false)) :
    Calls Try.prog 12 #[.agg #[.bool on, .slice a n cap, .int .i64 c, .int .i64 d], .agg #[.bool on', .slice a' n' cap', .int .i64 c', .int .i64 d']] w fun e w' => e = .returned (.bool (absIn on n lo hi c d on' n' lo' hi' c' d')) ∧ Below w.heap.size w w' := by
  have H : HeldL w [(w.heap.size + 1, [Value.bool on', .slice a' n' cap', .int .i64 c', .int .i64 d']), (w.heap.size, [Value.bool on, .slice a n cap, .int .i64 c, .int .i64 d])] ((w.alloc (.cells #[.bool on, .slice a n cap, .int .i64 c, .int .i64 d] 27)).alloc (.cells #[.bool on', .slice a' n' cap', .int .i64 c', .int .i64 d'] 27)) := by
    have e1 : w.heap.size + 1 = (w.alloc (.cells #[.bool on, .slice a n cap, .int .i64 c, .int .i64 d] 27)).heap.size := by simp
    rw [e1]
    exact HeldL.newL (vs := [Value.bool on', .slice a' n' cap', .int .i64 c', .int .i64 d']) (HeldL.newL (vs := [Value.bool on, .slice a n cap, .int .i64 c, .int .i64 d]) (HeldL.nil w))
  obtain ⟨Lb, hLb⟩ : ∃ L, L = [(w.heap.size + 1, [Value.bool on', .slice a' n' cap', .int .i64 c', .int .i64 d']), (w.heap.size, [Value.bool on, .slice a n cap, .int .i64 c, .int .i64 d])] := ⟨_, rfl⟩
  have m0 : (w.heap.size, [Value.bool on, .slice a n cap, .int .i64 c, .int .i64 d]) ∈ Lb := by rw [hLb]; simp
  have m1 : (w.heap.size + 1, [Value.bool on', .slice a' n' cap', .int .i64 c', .int .i64 d']) ∈ Lb := by rw [hLb]; simp
  rw [← hLb] at H
  clear hLb
  have I := hC.next H.below
  have J := hD.next H.below
  clear hC hD
  obtain ⟨VV, hVV⟩ : ∃ V, V = ((w.alloc (.cells #[.bool on, .slice a n cap, .int .i64 c, .int .i64 d] 27)).alloc (.cells #[.bool on', .slice a' n' cap', .int .i64 c', .int .i64 d'] 27)) := ⟨_, rfl⟩
  rw [← hVV] at H I J
  have hS0 : HX w VV Lb VV.drew := ⟨H.drew, (Below.refl _ VV).drew⟩
  clear H
  go_enter Try.func12, Try.ntmps12
  go_wp2_with fail
  rw [← hVV]
  clear hVV
  refine region_inv3 [(0, 5), (1, 6), (2, 7), (3, 8), (4, 9), (5, 10), (6, 11), (7, 12), (8, 13), (9, 14), (10, 15), (11, 16), (12, 17), (13, 4)]
    (fun j v _ => match j with
      | 0 => Is (.agg #[.bool on, .slice a n cap, .int .i64 c, .int .i64 d]) v
      | 1 => Is (.bool false) v
      | 2 => Is (.bool false) v
      | 3 => Is (undef) v
      | 4 => Is (undef) v
      | 5 => Is (.bool false) v
      | 6 => Is (.bool false) v
      | 7 => Is (undef) v
      | 8 => Is (undef) v
      | 9 => Is (undef) v
      | 10 => Is (undef) v
      | 11 => Is (undef) v
      | 12 => Is (.bool false) v
      | 13 => Is (.bool false) v
      | _ => True)
    (fun _ W => HX w VV Lb W) TT
    (by kernel_rfl) (by kernel_rfl) (by kernel_rfl) (by kernel_rfl) (by kernel_rfl) rfl hS0 (fun i j v W W' _ h _ => h) ?_ ?_
  · intro i L vals W hi' hφ hS hL hd
    have hi2 : i < 14 := hi'
    clear hi'
    rcases (show i = 0 ∨ i = 1 ∨ i = 2 ∨ i = 3 ∨ i = 4 ∨ i = 5 ∨ i = 6 ∨ i = 7 ∨ i = 8 ∨ i = 9 ∨ i = 10 ∨ i = 11 ∨ i = 12 ∨ i = 13 by omega) with rfl | rfl | rfl | rfl | rfl | rfl | rfl | rfl | rfl | rfl | rfl | rfl | rfl | rfl
    · have c0 := hS.cell m0 (i := 0) rfl
      have c1 := hS.cell m0 (i := 1) rfl
      have c2 := hS.cell m0 (i := 2) rfl
      have c3 := hS.cell m0 (i := 3) rfl
      dsimp only at c0 c1 c2 c3
      refine wpAt_of rfl rfl ?_
      simp only [frOf, Act.put]
      go_wp2_with fail
      first | exact ⟨trivial, rfl, trivial, hS⟩ | exact ⟨rfl, trivial, hS⟩ | exact ⟨trivial, rfl, trivial⟩ | exact ⟨rfl, trivial⟩ | exact rfl
    · have k0 : vals 0 = .agg #[.bool on, .slice a n cap, .int .i64 c, .int .i64 d] := hφ 0 (hd 0 (by decide))
      refine wpAt_of rfl rfl ?_
      simp only [frOf, Act.put]
      go_wp2_with fail
      refine (absOkI _ _ _ _ _ _ _ _ _ _ _ hn (I.next hS.beh)).mono ?_
      rintro e W' ⟨rfl, hb⟩
      rw [g.out]
      go_wp2_with fail
      first | exact ⟨trivial, rfl, trivial, HX.next hb hS⟩ | exact ⟨rfl, trivial, HX.next hb hS⟩ | exact ⟨trivial, rfl, trivial⟩ | exact ⟨rfl, trivial⟩ | exact rfl
    · have k1 : vals 1 = .bool false := hφ 1 (hd 1 (by decide))
      refine wpAt_of rfl rfl ?_
      simp only [frOf, Act.put]
      go_wp2_with fail
      first | exact ⟨trivial, rfl, trivial, hS⟩ | exact ⟨rfl, trivial, hS⟩ | exact ⟨trivial, rfl, trivial⟩ | exact ⟨rfl, trivial⟩ | exact rfl
    · have k2 : vals 2 = .bool false := hφ 2 (hd 2 (by decide))
      simp only [wpAt, List.getElem?_toArray, List.getElem?_cons_succ, List.getElem?_cons_zero, slotOf, frOf, Act.put]
      go_wp2_with fail
      first | exact ⟨trivial, rfl, trivial, hS⟩ | exact ⟨rfl, trivial, hS⟩ | exact ⟨trivial, rfl, trivial⟩ | exact ⟨rfl, trivial⟩ | exact rfl
    · have k2 : vals 2 = .bool false := hφ 2 (hd 2 (by decide))
      have k3 : vals 3 = undef := hφ 3 (hd 3 (by decide))
      simp only [wpAt, List.getElem?_toArray, List.getElem?_cons_succ, List.getElem?_cons_zero, slotOf, frOf, Act.put]
      go_wp2_with fail
      first | exact ⟨trivial, rfl, trivial, hS⟩ | exact ⟨rfl, trivial, hS⟩ | exact ⟨trivial, rfl, trivial⟩ | exact ⟨rfl, trivial⟩ | exact rfl
    · have k2 : vals 2 = .bool false := hφ 2 (hd 2 (by decide))
      have k4 : vals 4 = undef := hφ 4 (hd 4 (by decide))
      refine wpAt_of rfl rfl ?_
      simp only [frOf, Act.put]
      go_wp2_with fail
      first | exact ⟨trivial, rfl, trivial, hS⟩ | exact ⟨rfl, trivial, hS⟩ | exact ⟨trivial, rfl, trivial⟩ | exact ⟨rfl, trivial⟩ | exact rfl
    · have k5 : vals 5 = .bool false := hφ 5 (hd 5 (by decide))
      refine wpAt_of rfl rfl ?_
      simp only [frOf, Act.put]
      go_wp2_with fail
      first | exact ⟨trivial, rfl, trivial, hS⟩ | exact ⟨rfl, trivial, hS⟩ | exact ⟨trivial, rfl, trivial⟩ | exact ⟨rfl, trivial⟩ | exact rfl
    · have k6 : vals 6 = .bool false := hφ 6 (hd 6 (by decide))
      simp only [wpAt, List.getElem?_toArray, List.getElem?_cons_succ, List.getElem?_cons_zero, slotOf, frOf, Act.put]
      go_wp2_with fail
      first | exact ⟨trivial, rfl, trivial, hS⟩ | exact ⟨rfl, trivial, hS⟩ | exact ⟨trivial, rfl, trivial⟩ | exact ⟨rfl, trivial⟩ | exact rfl
    · have k6 : vals 6 = .bool false := hφ 6 (hd 6 (by decide))
      have k7 : vals 7 = undef := hφ 7 (hd 7 (by decide))
      simp only [wpAt, List.getElem?_toArray, List.getElem?_cons_succ, List.getElem?_cons_zero, slotOf, frOf, Act.put]
      go_wp2_with fail
      first | exact ⟨trivial, rfl, trivial, hS⟩ | exact ⟨rfl, trivial, hS⟩ | exact ⟨trivial, rfl, trivial⟩ | exact ⟨rfl, trivial⟩ | exact rfl
    · have k6 : vals 6 = .bool false := hφ 6 (hd 6 (by decide))
      simp only [wpAt, List.getElem?_toArray, List.getElem?_cons_succ, List.getElem?_cons_zero, slotOf, frOf, Act.put]
      go_wp2_with fail
      first | exact ⟨trivial, rfl, trivial, hS⟩ | exact ⟨rfl, trivial, hS⟩ | exact ⟨trivial, rfl, trivial⟩ | exact ⟨rfl, trivial⟩ | exact rfl
    · have k6 : vals 6 = .bool false := hφ 6 (hd 6 (by decide))
      have k9 : vals 9 = undef := hφ 9 (hd 9 (by decide))
      simp only [wpAt, List.getElem?_toArray, List.getElem?_cons_succ, List.getElem?_cons_zero, slotOf, frOf, Act.put]
      go_wp2_with fail
      first | exact ⟨trivial, rfl, trivial, hS⟩ | exact ⟨rfl, trivial, hS⟩ | exact ⟨trivial, rfl, trivial⟩ | exact ⟨rfl, trivial⟩ | exact rfl
    · have k6 : vals 6 = .bool false := hφ 6 (hd 6 (by decide))
      have k8 : vals 8 = undef := hφ 8 (hd 8 (by decide))
      have k10 : vals 10 = undef := hφ 10 (hd 10 (by decide))
      simp only [wpAt, List.getElem?_toArray, List.getElem?_cons_succ, List.getElem?_cons_zero, slotOf, frOf, Act.put]
      go_wp2_with fail
      first | exact ⟨trivial, rfl, trivial, hS⟩ | exact ⟨rfl, trivial, hS⟩ | exact ⟨trivial, rfl, trivial⟩ | exact ⟨rfl, trivial⟩ | exact rfl
    · have k6 : vals 6 = .bool false := hφ 6 (hd 6 (by decide))
      have k11 : vals 11 = undef := hφ 11 (hd 11 (by decide))
      refine wpAt_of rfl rfl ?_
      simp only [frOf, Act.put]
      go_wp2_with fail
      first | exact ⟨trivial, rfl, trivial, hS⟩ | exact ⟨rfl, trivial, hS⟩ | exact ⟨trivial, rfl, trivial⟩ | exact ⟨rfl, trivial⟩ | exact rfl
    · have k12 : vals 12 = .bool false := hφ 12 (hd 12 (by decide))
      refine wpAt_of rfl rfl ?_
      simp only [frOf, Act.put]
      go_wp2_with fail
      first | exact ⟨trivial, rfl, trivial, hS⟩ | exact ⟨rfl, trivial, hS⟩ | exact ⟨trivial, rfl, trivial⟩ | exact ⟨rfl, trivial⟩ | exact rfl
  · intro L vals W hall hφ hS
    have k0 : vals 0 = .agg #[.bool on, .slice a n cap, .int .i64 c, .int .i64 d] := hφ 0 (by decide)
    have k1 : vals 1 = .bool false := hφ 1 (by decide)
    have k2 : vals 2 = .bool false := hφ 2 (by decide)
    have k3 : vals 3 = undef := hφ 3 (by decide)
    have k4 : vals 4 = undef := hφ 4 (by decide)
    have k5 : vals 5 = .bool false := hφ 5 (by decide)
    have k6 : vals 6 = .bool false := hφ 6 (by decide)
    have k7 : vals 7 = undef := hφ 7 (by decide)
    have k8 : vals 8 = undef := hφ 8 (by decide)
    have k9 : vals 9 = undef := hφ 9 (by decide)
    have k10 : vals 10 = undef := hφ 10 (by decide)
    have k11 : vals 11 = undef := hφ 11 (by decide)
    have k12 : vals 12 = .bool false := hφ 12 (by decide)
    have k13 : vals 13 = .bool false := hφ 13 (by decide)
    simp only [frOf, Act.put, List.setIfInBounds_toArray, List.set_cons_succ, List.set_cons_zero, k0, k1, k2, k3, k4, k5, k6, k7, k8, k9, k10, k11, k12, k13]
    clear k0 k1 k2 k3 k4 k5 k6 k7 k8 k9 k10 k11 k12 k13 hall hφ hS0
    have H := hS.1
    clear hS
    go_wp2_with fail
    go_ret
    exact ⟨ret_bool (by simp [absIn, g.out]), H.below⟩
set_option maxRecDepth 10000 in
set_option maxHeartbeats 8000000 in
theorem absInI_1 (on : Bool) (a : Option Addr) (b off n cap : Nat) (lo hi : Nat → Int) (c d : Int) (on' : Bool) (a' : Option Addr) (b' off' n' cap' : Nat) (lo' hi' : Nat → Int) (c' d' : Int) (w : World) (hn : n ≤ 1048576) (hn' : n' ≤ 1048576) (hC : BndsAt a b off n lo hi w) (hD : BndsAt a' b' off' n' lo' hi' w) (g : Hid (absOk on n lo hi c d = true)) (g' : Hid (absOk on' n' lo' hi' c' d' = false)) :
    Calls Try.prog 12 #[.agg #[.bool on, .slice a n cap, .int .i64 c, .int .i64 d], .agg #[.bool on', .slice a' n' cap', .int .i64 c', .int .i64 d']] w fun e w' => e = .returned (.bool (absIn on n lo hi c d on' n' lo' hi' c' d')) ∧ Below w.heap.size w w' := by
  have H : HeldL w [(w.heap.size + 1, [Value.bool on', .slice a' n' cap', .int .i64 c', .int .i64 d']), (w.heap.size, [Value.bool on, .slice a n cap, .int .i64 c, .int .i64 d])] ((w.alloc (.cells #[.bool on, .slice a n cap, .int .i64 c, .int .i64 d] 27)).alloc (.cells #[.bool on', .slice a' n' cap', .int .i64 c', .int .i64 d'] 27)) := by
    have e1 : w.heap.size + 1 = (w.alloc (.cells #[.bool on, .slice a n cap, .int .i64 c, .int .i64 d] 27)).heap.size := by simp
    rw [e1]
    exact HeldL.newL (vs := [Value.bool on', .slice a' n' cap', .int .i64 c', .int .i64 d']) (HeldL.newL (vs := [Value.bool on, .slice a n cap, .int .i64 c, .int .i64 d]) (HeldL.nil w))
  obtain ⟨Lb, hLb⟩ : ∃ L, L = [(w.heap.size + 1, [Value.bool on', .slice a' n' cap', .int .i64 c', .int .i64 d']), (w.heap.size, [Value.bool on, .slice a n cap, .int .i64 c, .int .i64 d])] := ⟨_, rfl⟩
  have m0 : (w.heap.size, [Value.bool on, .slice a n cap, .int .i64 c, .int .i64 d]) ∈ Lb := by rw [hLb]; simp
  have m1 : (w.heap.size + 1, [Value.bool on', .slice a' n' cap', .int .i64 c', .int .i64 d']) ∈ Lb := by rw [hLb]; simp
  rw [← hLb] at H
  clear hLb
  have I := hC.next H.below
  have J := hD.next H.below
  clear hC hD
  obtain ⟨VV, hVV⟩ : ∃ V, V = ((w.alloc (.cells #[.bool on, .slice a n cap, .int .i64 c, .int .i64 d] 27)).alloc (.cells #[.bool on', .slice a' n' cap', .int .i64 c', .int .i64 d'] 27)) := ⟨_, rfl⟩
  rw [← hVV] at H I J
  have hS0 : HX w VV Lb VV.drew := ⟨H.drew, (Below.refl _ VV).drew⟩
  clear H
  go_enter Try.func12, Try.ntmps12
  go_wp2_with fail
  rw [← hVV]
  clear hVV
  refine region_inv3 [(0, 5), (1, 6), (2, 7), (3, 8), (4, 9), (5, 10), (6, 11), (7, 12), (8, 13), (9, 14), (10, 15), (11, 16), (12, 17), (13, 4)]
    (fun j v _ => match j with
      | 0 => Is (.agg #[.bool on, .slice a n cap, .int .i64 c, .int .i64 d]) v
      | 1 => Is (.bool true) v
      | 2 => Is (.bool true) v
      | 3 => Is (.agg #[.bool on', .slice a' n' cap', .int .i64 c', .int .i64 d']) v
      | 4 => Is (.bool false) v
      | 5 => Is (.bool false) v
      | 6 => Is (.bool false) v
      | 7 => Is (undef) v
      | 8 => Is (undef) v
      | 9 => Is (undef) v
      | 10 => Is (undef) v
      | 11 => Is (undef) v
      | 12 => Is (.bool false) v
      | 13 => Is (.bool false) v
      | _ => True)
    (fun _ W => HX w VV Lb W) TT
    (by kernel_rfl) (by kernel_rfl) (by kernel_rfl) (by kernel_rfl) (by kernel_rfl) rfl hS0 (fun i j v W W' _ h _ => h) ?_ ?_
  · intro i L vals W hi' hφ hS hL hd
    have hi2 : i < 14 := hi'
    clear hi'
    rcases (show i = 0 ∨ i = 1 ∨ i = 2 ∨ i = 3 ∨ i = 4 ∨ i = 5 ∨ i = 6 ∨ i = 7 ∨ i = 8 ∨ i = 9 ∨ i = 10 ∨ i = 11 ∨ i = 12 ∨ i = 13 by omega) with rfl | rfl | rfl | rfl | rfl | rfl | rfl | rfl | rfl | rfl | rfl | rfl | rfl | rfl
    · have c0 := hS.cell m0 (i := 0) rfl
      have c1 := hS.cell m0 (i := 1) rfl
      have c2 := hS.cell m0 (i := 2) rfl
      have c3 := hS.cell m0 (i := 3) rfl
      dsimp only at c0 c1 c2 c3
      refine wpAt_of rfl rfl ?_
      simp only [frOf, Act.put]
      go_wp2_with fail
      first | exact ⟨trivial, rfl, trivial, hS⟩ | exact ⟨rfl, trivial, hS⟩ | exact ⟨trivial, rfl, trivial⟩ | exact ⟨rfl, trivial⟩ | exact rfl
    · have k0 : vals 0 = .agg #[.bool on, .slice a n cap, .int .i64 c, .int .i64 d] := hφ 0 (hd 0 (by decide))
      refine wpAt_of rfl rfl ?_
      simp only [frOf, Act.put]
      go_wp2_with fail
      refine (absOkI _ _ _ _ _ _ _ _ _ _ _ hn (I.next hS.beh)).mono ?_
      rintro e W' ⟨rfl, hb⟩
      rw [g.out]
      go_wp2_with fail
      first | exact ⟨trivial, rfl, trivial, HX.next hb hS⟩ | exact ⟨rfl, trivial, HX.next hb hS⟩ | exact ⟨trivial, rfl, trivial⟩ | exact ⟨rfl, trivial⟩ | exact rfl
    · have k1 : vals 1 = .bool true := hφ 1 (hd 1 (by decide))
      refine wpAt_of rfl rfl ?_
      simp only [frOf, Act.put]
      go_wp2_with fail
      first | exact ⟨trivial, rfl, trivial, hS⟩ | exact ⟨rfl, trivial, hS⟩ | exact ⟨trivial, rfl, trivial⟩ | exact ⟨rfl, trivial⟩ | exact rfl
    · have k2 : vals 2 = .bool true := hφ 2 (hd 2 (by decide))
      have c0 := hS.cell m1 (i := 0) rfl
      have c1 := hS.cell m1 (i := 1) rfl
      have c2 := hS.cell m1 (i := 2) rfl
      have c3 := hS.cell m1 (i := 3) rfl
      dsimp only at c0 c1 c2 c3
      simp only [wpAt, List.getElem?_toArray, List.getElem?_cons_succ, List.getElem?_cons_zero, slotOf, frOf, Act.put]
      go_wp2_with fail
      first | exact ⟨trivial, rfl, trivial, hS⟩ | exact ⟨rfl, trivial, hS⟩ | exact ⟨trivial, rfl, trivial⟩ | exact ⟨rfl, trivial⟩ | exact rfl
    · have k2 : vals 2 = .bool true := hφ 2 (hd 2 (by decide))
      have k3 : vals 3 = .agg #[.bool on', .slice a' n' cap', .int .i64 c', .int .i64 d'] := hφ 3 (hd 3 (by decide))
      simp only [wpAt, List.getElem?_toArray, List.getElem?_cons_succ, List.getElem?_cons_zero, slotOf, frOf, Act.put]
      go_wp2_with fail
      refine (absOkI _ _ _ _ _ _ _ _ _ _ _ hn' (J.next hS.beh)).mono ?_
      rintro e W' ⟨rfl, hb⟩
      rw [g'.out]
      go_wp2_with fail
      first | exact ⟨trivial, rfl, trivial, HX.next hb hS⟩ | exact ⟨rfl, trivial, HX.next hb hS⟩ | exact ⟨trivial, rfl, trivial⟩ | exact ⟨rfl, trivial⟩ | exact rfl
    · have k2 : vals 2 = .bool true := hφ 2 (hd 2 (by decide))
      have k4 : vals 4 = .bool false := hφ 4 (hd 4 (by decide))
      refine wpAt_of rfl rfl ?_
      simp only [frOf, Act.put]
      go_wp2_with fail
      first | exact ⟨trivial, rfl, trivial, hS⟩ | exact ⟨rfl, trivial, hS⟩ | exact ⟨trivial, rfl, trivial⟩ | exact ⟨rfl, trivial⟩ | exact rfl
    · have k5 : vals 5 = .bool false := hφ 5 (hd 5 (by decide))
      refine wpAt_of rfl rfl ?_
      simp only [frOf, Act.put]
      go_wp2_with fail
      first | exact ⟨trivial, rfl, trivial, hS⟩ | exact ⟨rfl, trivial, hS⟩ | exact ⟨trivial, rfl, trivial⟩ | exact ⟨rfl, trivial⟩ | exact rfl
    · have k6 : vals 6 = .bool false := hφ 6 (hd 6 (by decide))
      simp only [wpAt, List.getElem?_toArray, List.getElem?_cons_succ, List.getElem?_cons_zero, slotOf, frOf, Act.put]
      go_wp2_with fail
      first | exact ⟨trivial, rfl, trivial, hS⟩ | exact ⟨rfl, trivial, hS⟩ | exact ⟨trivial, rfl, trivial⟩ | exact ⟨rfl, trivial⟩ | exact rfl
    · have k6 : vals 6 = .bool false := hφ 6 (hd 6 (by decide))
      have k7 : vals 7 = undef := hφ 7 (hd 7 (by decide))
      simp only [wpAt, List.getElem?_toArray, List.getElem?_cons_succ, List.getElem?_cons_zero, slotOf, frOf, Act.put]
      go_wp2_with fail
      first | exact ⟨trivial, rfl, trivial, hS⟩ | exact ⟨rfl, trivial, hS⟩ | exact ⟨trivial, rfl, trivial⟩ | exact ⟨rfl, trivial⟩ | exact rfl
    · have k6 : vals 6 = .bool false := hφ 6 (hd 6 (by decide))
      simp only [wpAt, List.getElem?_toArray, List.getElem?_cons_succ, List.getElem?_cons_zero, slotOf, frOf, Act.put]
      go_wp2_with fail
      first | exact ⟨trivial, rfl, trivial, hS⟩ | exact ⟨rfl, trivial, hS⟩ | exact ⟨trivial, rfl, trivial⟩ | exact ⟨rfl, trivial⟩ | exact rfl
    · have k6 : vals 6 = .bool false := hφ 6 (hd 6 (by decide))
      have k9 : vals 9 = undef := hφ 9 (hd 9 (by decide))
      simp only [wpAt, List.getElem?_toArray, List.getElem?_cons_succ, List.getElem?_cons_zero, slotOf, frOf, Act.put]
      go_wp2_with fail
      first | exact ⟨trivial, rfl, trivial, hS⟩ | exact ⟨rfl, trivial, hS⟩ | exact ⟨trivial, rfl, trivial⟩ | exact ⟨rfl, trivial⟩ | exact rfl
    · have k6 : vals 6 = .bool false := hφ 6 (hd 6 (by decide))
      have k8 : vals 8 = undef := hφ 8 (hd 8 (by decide))
      have k10 : vals 10 = undef := hφ 10 (hd 10 (by decide))
      simp only [wpAt, List.getElem?_toArray, List.getElem?_cons_succ, List.getElem?_cons_zero, slotOf, frOf, Act.put]
      go_wp2_with fail
      first | exact ⟨trivial, rfl, trivial, hS⟩ | exact ⟨rfl, trivial, hS⟩ | exact ⟨trivial, rfl, trivial⟩ | exact ⟨rfl, trivial⟩ | exact rfl
    · have k6 : vals 6 = .bool false := hφ 6 (hd 6 (by decide))
      have k11 : vals 11 = undef := hφ 11 (hd 11 (by decide))
      refine wpAt_of rfl rfl ?_
      simp only [frOf, Act.put]
      go_wp2_with fail
      first | exact ⟨trivial, rfl, trivial, hS⟩ | exact ⟨rfl, trivial, hS⟩ | exact ⟨trivial, rfl, trivial⟩ | exact ⟨rfl, trivial⟩ | exact rfl
    · have k12 : vals 12 = .bool false := hφ 12 (hd 12 (by decide))
      refine wpAt_of rfl rfl ?_
      simp only [frOf, Act.put]
      go_wp2_with fail
      first | exact ⟨trivial, rfl, trivial, hS⟩ | exact ⟨rfl, trivial, hS⟩ | exact ⟨trivial, rfl, trivial⟩ | exact ⟨rfl, trivial⟩ | exact rfl
  · intro L vals W hall hφ hS
    have k0 : vals 0 = .agg #[.bool on, .slice a n cap, .int .i64 c, .int .i64 d] := hφ 0 (by decide)
    have k1 : vals 1 = .bool true := hφ 1 (by decide)
    have k2 : vals 2 = .bool true := hφ 2 (by decide)
    have k3 : vals 3 = .agg #[.bool on', .slice a' n' cap', .int .i64 c', .int .i64 d'] := hφ 3 (by decide)
    have k4 : vals 4 = .bool false := hφ 4 (by decide)
    have k5 : vals 5 = .bool false := hφ 5 (by decide)
    have k6 : vals 6 = .bool false := hφ 6 (by decide)
    have k7 : vals 7 = undef := hφ 7 (by decide)
    have k8 : vals 8 = undef := hφ 8 (by decide)
    have k9 : vals 9 = undef := hφ 9 (by decide)
    have k10 : vals 10 = undef := hφ 10 (by decide)
    have k11 : vals 11 = undef := hφ 11 (by decide)
    have k12 : vals 12 = .bool false := hφ 12 (by decide)
    have k13 : vals 13 = .bool false := hφ 13 (by decide)
    simp only [frOf, Act.put, List.setIfInBounds_toArray, List.set_cons_succ, List.set_cons_zero, k0, k1, k2, k3, k4, k5, k6, k7, k8, k9, k10, k11, k12, k13]
    clear k0 k1 k2 k3 k4 k5 k6 k7 k8 k9 k10 k11 k12 k13 hall hφ hS0
    have H := hS.1
    clear hS
    go_wp2_with fail
    go_ret
    exact ⟨ret_bool (by simp [absIn, g'.out]), H.below⟩
set_option maxRecDepth 10000 in
set_option maxHeartbeats 8000000 in
theorem absInI_ff (on : Bool) (a : Option Addr) (b off n cap : Nat) (lo hi : Nat → Int) (c d : Int) (on' : Bool) (a' : Option Addr) (b' off' n' cap' : Nat) (lo' hi' : Nat → Int) (c' d' : Int) (w : World) (hn : n ≤ 1048576) (hn' : n' ≤ 1048576) (hC : BndsAt a b off n lo hi w) (hD : BndsAt a' b' off' n' lo' hi' w) (g : Hid (absOk on n lo hi c d = true)) (g' : Hid (absOk on' n' lo' hi' c' d' = true)) (hon : on = false) (hon' : on' = false) :
    Calls Try.prog 12 #[.agg #[.bool on, .slice a n cap, .int .i64 c, .int .i64 d], .agg #[.bool on', .slice a' n' cap', .int .i64 c', .int .i64 d']] w fun e w' => e = .returned (.bool (absIn on n lo hi c d on' n' lo' hi' c' d')) ∧ Below w.heap.size w w' := by
  subst hon hon'
  obtain ⟨rfl, rfl, rfl⟩ : n = 0 ∧ c = 0 ∧ d = 0 := by have := g.out; simp [absOk] at this; exact this
  obtain ⟨rfl, rfl, rfl⟩ : n' = 0 ∧ c' = 0 ∧ d' = 0 := by have := g'.out; simp [absOk] at this; exact this
  obtain ⟨q, hq'⟩ : ∃ q, arIn false false (fun _ => 0) (fun _ => 0) (fun _ => 0) (fun _ => 0) = q := ⟨_, rfl⟩
  have hq : Hid (arIn false false (fun _ => 0) (fun _ => 0) (fun _ => 0) (fun _ => 0) = q) := hq'
  clear hq'
  have H : HeldL w [(w.heap.size + 1, [Value.bool false, .slice a' 0 cap', .int .i64 0, .int .i64 0]), (w.heap.size, [Value.bool false, .slice a 0 cap, .int .i64 0, .int .i64 0])] ((w.alloc (.cells #[.bool false, .slice a 0 cap, .int .i64 0, .int .i64 0] 27)).alloc (.cells #[.bool false, .slice a' 0 cap', .int .i64 0, .int .i64 0] 27)) := by
    have e1 : w.heap.size + 1 = (w.alloc (.cells #[.bool false, .slice a 0 cap, .int .i64 0, .int .i64 0] 27)).heap.size := by simp
    rw [e1]
    exact HeldL.newL (vs := [Value.bool false, .slice a' 0 cap', .int .i64 0, .int .i64 0]) (HeldL.newL (vs := [Value.bool false, .slice a 0 cap, .int .i64 0, .int .i64 0]) (HeldL.nil w))
  obtain ⟨Lb, hLb⟩ : ∃ L, L = [(w.heap.size + 1, [Value.bool false, .slice a' 0 cap', .int .i64 0, .int .i64 0]), (w.heap.size, [Value.bool false, .slice a 0 cap, .int .i64 0, .int .i64 0])] := ⟨_, rfl⟩
  have m0 : (w.heap.size, [Value.bool false, .slice a 0 cap, .int .i64 0, .int .i64 0]) ∈ Lb := by rw [hLb]; simp
  have m1 : (w.heap.size + 1, [Value.bool false, .slice a' 0 cap', .int .i64 0, .int .i64 0]) ∈ Lb := by rw [hLb]; simp
  rw [← hLb] at H
  clear hLb
  have I := hC.next H.below
  have J := hD.next H.below
  clear hC hD
  obtain ⟨VV, hVV⟩ : ∃ V, V = ((w.alloc (.cells #[.bool false, .slice a 0 cap, .int .i64 0, .int .i64 0] 27)).alloc (.cells #[.bool false, .slice a' 0 cap', .int .i64 0, .int .i64 0] 27)) := ⟨_, rfl⟩
  rw [← hVV] at H I J
  have hS0 : HX w VV Lb VV.drew := ⟨H.drew, (Below.refl _ VV).drew⟩
  clear H
  go_enter Try.func12, Try.ntmps12
  go_wp2_with fail
  rw [← hVV]
  clear hVV
  refine region_inv3 [(0, 5), (1, 6), (2, 7), (3, 8), (4, 9), (5, 10), (6, 11), (7, 12), (8, 13), (9, 14), (10, 15), (11, 16), (12, 17), (13, 4)]
    (fun j v _ => match j with
      | 0 => Is (.agg #[.bool false, .slice a 0 cap, .int .i64 0, .int .i64 0]) v
      | 1 => Is (.bool true) v
      | 2 => Is (.bool true) v
      | 3 => Is (.agg #[.bool false, .slice a' 0 cap', .int .i64 0, .int .i64 0]) v
      | 4 => Is (.bool true) v
      | 5 => Is (.bool true) v
      | 6 => Is (.bool true) v
      | 7 => Is (.agg #[.bool false, .slice a 0 cap, .int .i64 0, .int .i64 0]) v
      | 8 => Is (.agg #[.bool false, .int .i64 0, .int .i64 0, .int .i64 0, .int .i64 0, .int .i64 0, .int .i64 0, .int .i64 0, .int .i64 0, .int .i64 0, .int .i64 0]) v
      | 9 => Is (.agg #[.bool false, .slice a' 0 cap', .int .i64 0, .int .i64 0]) v
      | 10 => Is (.agg #[.bool false, .int .i64 0, .int .i64 0, .int .i64 0, .int .i64 0, .int .i64 0, .int .i64 0, .int .i64 0, .int .i64 0, .int .i64 0, .int .i64 0]) v
      | 11 => Is (.bool q) v
      | 12 => Is (.bool q) v
      | 13 => Is (.bool q) v
      | _ => True)
    (fun _ W => HX w VV Lb W) TT
    (by kernel_rfl) (by kernel_rfl) (by kernel_rfl) (by kernel_rfl) (by kernel_rfl) rfl hS0 (fun i j v W W' _ h _ => h) ?_ ?_
  · intro i L vals W hi' hφ hS hL hd
    have hi2 : i < 14 := hi'
    clear hi'
    rcases (show i = 0 ∨ i = 1 ∨ i = 2 ∨ i = 3 ∨ i = 4 ∨ i = 5 ∨ i = 6 ∨ i = 7 ∨ i = 8 ∨ i = 9 ∨ i = 10 ∨ i = 11 ∨ i = 12 ∨ i = 13 by omega) with rfl | rfl | rfl | rfl | rfl | rfl | rfl | rfl | rfl | rfl | rfl | rfl | rfl | rfl
    · have c0 := hS.cell m0 (i := 0) rfl
      have c1 := hS.cell m0 (i := 1) rfl
      have c2 := hS.cell m0 (i := 2) rfl
      have c3 := hS.cell m0 (i := 3) rfl
      dsimp only at c0 c1 c2 c3
      refine wpAt_of rfl rfl ?_
      simp only [frOf, Act.put]
      go_wp2_with fail
      first | exact ⟨trivial, rfl, trivial, hS⟩ | exact ⟨rfl, trivial, hS⟩ | exact ⟨trivial, rfl, trivial⟩ | exact ⟨rfl, trivial⟩ | exact rfl
    · have k0 : vals 0 = .agg #[.bool false, .slice a 0 cap, .int .i64 0, .int .i64 0] := hφ 0 (hd 0 (by decide))
      refine wpAt_of rfl rfl ?_
      simp only [frOf, Act.put]
      go_wp2_with fail
      refine (absOkI _ _ _ _ _ _ _ _ _ _ _ hn (I.next hS.beh)).mono ?_
      rintro e W' ⟨rfl, hb⟩
      rw [g.out]
      go_wp2_with fail
      first | exact ⟨trivial, rfl, trivial, HX.next hb hS⟩ | exact ⟨rfl, trivial, HX.next hb hS⟩ | exact ⟨trivial, rfl, trivial⟩ | exact ⟨rfl, trivial⟩ | exact rfl
    · have k1 : vals 1 = .bool true := hφ 1 (hd 1 (by decide))
      refine wpAt_of rfl rfl ?_
      simp only [frOf, Act.put]
      go_wp2_with fail
      first | exact ⟨trivial, rfl, trivial, hS⟩ | exact ⟨rfl, trivial, hS⟩ | exact ⟨trivial, rfl, trivial⟩ | exact ⟨rfl, trivial⟩ | exact rfl
    · have k2 : vals 2 = .bool true := hφ 2 (hd 2 (by decide))
      have c0 := hS.cell m1 (i := 0) rfl
      have c1 := hS.cell m1 (i := 1) rfl
      have c2 := hS.cell m1 (i := 2) rfl
      have c3 := hS.cell m1 (i := 3) rfl
      dsimp only at c0 c1 c2 c3
      simp only [wpAt, List.getElem?_toArray, List.getElem?_cons_succ, List.getElem?_cons_zero, slotOf, frOf, Act.put]
      go_wp2_with fail
      first | exact ⟨trivial, rfl, trivial, hS⟩ | exact ⟨rfl, trivial, hS⟩ | exact ⟨trivial, rfl, trivial⟩ | exact ⟨rfl, trivial⟩ | exact rfl
    · have k2 : vals 2 = .bool true := hφ 2 (hd 2 (by decide))
      have k3 : vals 3 = .agg #[.bool false, .slice a' 0 cap', .int .i64 0, .int .i64 0] := hφ 3 (hd 3 (by decide))
      simp only [wpAt, List.getElem?_toArray, List.getElem?_cons_succ, List.getElem?_cons_zero, slotOf, frOf, Act.put]
      go_wp2_with fail
      refine (absOkI _ _ _ _ _ _ _ _ _ _ _ hn' (J.next hS.beh)).mono ?_
      rintro e W' ⟨rfl, hb⟩
      rw [g'.out]
      go_wp2_with fail
      first | exact ⟨trivial, rfl, trivial, HX.next hb hS⟩ | exact ⟨rfl, trivial, HX.next hb hS⟩ | exact ⟨trivial, rfl, trivial⟩ | exact ⟨rfl, trivial⟩ | exact rfl
    · have k2 : vals 2 = .bool true := hφ 2 (hd 2 (by decide))
      have k4 : vals 4 = .bool true := hφ 4 (hd 4 (by decide))
      refine wpAt_of rfl rfl ?_
      simp only [frOf, Act.put]
      go_wp2_with fail
      first | exact ⟨trivial, rfl, trivial, hS⟩ | exact ⟨rfl, trivial, hS⟩ | exact ⟨trivial, rfl, trivial⟩ | exact ⟨rfl, trivial⟩ | exact rfl
    · have k5 : vals 5 = .bool true := hφ 5 (hd 5 (by decide))
      refine wpAt_of rfl rfl ?_
      simp only [frOf, Act.put]
      go_wp2_with fail
      first | exact ⟨trivial, rfl, trivial, hS⟩ | exact ⟨rfl, trivial, hS⟩ | exact ⟨trivial, rfl, trivial⟩ | exact ⟨rfl, trivial⟩ | exact rfl
    · have k6 : vals 6 = .bool true := hφ 6 (hd 6 (by decide))
      have c0 := hS.cell m0 (i := 0) rfl
      have c1 := hS.cell m0 (i := 1) rfl
      have c2 := hS.cell m0 (i := 2) rfl
      have c3 := hS.cell m0 (i := 3) rfl
      dsimp only at c0 c1 c2 c3
      simp only [wpAt, List.getElem?_toArray, List.getElem?_cons_succ, List.getElem?_cons_zero, slotOf, frOf, Act.put]
      go_wp2_with fail
      first | exact ⟨trivial, rfl, trivial, hS⟩ | exact ⟨rfl, trivial, hS⟩ | exact ⟨trivial, rfl, trivial⟩ | exact ⟨rfl, trivial⟩ | exact rfl
    · have k6 : vals 6 = .bool true := hφ 6 (hd 6 (by decide))
      have k7 : vals 7 = .agg #[.bool false, .slice a 0 cap, .int .i64 0, .int .i64 0] := hφ 7 (hd 7 (by decide))
      simp only [wpAt, List.getElem?_toArray, List.getElem?_cons_succ, List.getElem?_cons_zero, slotOf, frOf, Act.put]
      go_wp2_with fail
      refine (arrivalF _ _ _).mono ?_
      rintro e W' ⟨rfl, hb⟩
      go_wp2_with fail
      first | exact ⟨trivial, rfl, trivial, HX.next hb hS⟩ | exact ⟨rfl, trivial, HX.next hb hS⟩ | exact ⟨trivial, rfl, trivial⟩ | exact ⟨rfl, trivial⟩ | exact rfl
    · have k6 : vals 6 = .bool true := hφ 6 (hd 6 (by decide))
      have c0 := hS.cell m1 (i := 0) rfl
      have c1 := hS.cell m1 (i := 1) rfl
      have c2 := hS.cell m1 (i := 2) rfl
      have c3 := hS.cell m1 (i := 3) rfl
      dsimp only at c0 c1 c2 c3
      simp only [wpAt, List.getElem?_toArray, List.getElem?_cons_succ, List.getElem?_cons_zero, slotOf, frOf, Act.put]
      go_wp2_with fail
      first | exact ⟨trivial, rfl, trivial, hS⟩ | exact ⟨rfl, trivial, hS⟩ | exact ⟨trivial, rfl, trivial⟩ | exact ⟨rfl, trivial⟩ | exact rfl
    · have k6 : vals 6 = .bool true := hφ 6 (hd 6 (by decide))
      have k9 : vals 9 = .agg #[.bool false, .slice a' 0 cap', .int .i64 0, .int .i64 0] := hφ 9 (hd 9 (by decide))
      simp only [wpAt, List.getElem?_toArray, List.getElem?_cons_succ, List.getElem?_cons_zero, slotOf, frOf, Act.put]
      go_wp2_with fail
      refine (arrivalF _ _ _).mono ?_
      rintro e W' ⟨rfl, hb⟩
      go_wp2_with fail
      first | exact ⟨trivial, rfl, trivial, HX.next hb hS⟩ | exact ⟨rfl, trivial, HX.next hb hS⟩ | exact ⟨trivial, rfl, trivial⟩ | exact ⟨rfl, trivial⟩ | exact rfl
    · have k6 : vals 6 = .bool true := hφ 6 (hd 6 (by decide))
      have k8 : vals 8 = .agg #[.bool false, .int .i64 0, .int .i64 0, .int .i64 0, .int .i64 0, .int .i64 0, .int .i64 0, .int .i64 0, .int .i64 0, .int .i64 0, .int .i64 0] := hφ 8 (hd 8 (by decide))
      have k10 : vals 10 = .agg #[.bool false, .int .i64 0, .int .i64 0, .int .i64 0, .int .i64 0, .int .i64 0, .int .i64 0, .int .i64 0, .int .i64 0, .int .i64 0, .int .i64 0] := hφ 10 (hd 10 (by decide))
      simp only [wpAt, List.getElem?_toArray, List.getElem?_cons_succ, List.getElem?_cons_zero, slotOf, frOf, Act.put]
      go_wp2_with fail
      refine (isInI false false (fun _ => 0) (fun _ => 0) (fun _ => 0) (fun _ => 0) _).mono ?_
      rintro e W' ⟨rfl, hb⟩
      rw [hq.out]
      go_wp2_with fail
      first | exact ⟨trivial, rfl, trivial, HX.next hb hS⟩ | exact ⟨rfl, trivial, HX.next hb hS⟩ | exact ⟨trivial, rfl, trivial⟩ | exact ⟨rfl, trivial⟩ | exact rfl
    · have k6 : vals 6 = .bool true := hφ 6 (hd 6 (by decide))
      have k11 : vals 11 = .bool q := hφ 11 (hd 11 (by decide))
      refine wpAt_of rfl rfl ?_
      simp only [frOf, Act.put]
      go_wp2_with fail
      first | exact ⟨trivial, rfl, trivial, hS⟩ | exact ⟨rfl, trivial, hS⟩ | exact ⟨trivial, rfl, trivial⟩ | exact ⟨rfl, trivial⟩ | exact rfl
    · have k12 : vals 12 = .bool q := hφ 12 (hd 12 (by decide))
      refine wpAt_of rfl rfl ?_
      simp only [frOf, Act.put]
      go_wp2_with fail
      first | exact ⟨trivial, rfl, trivial, hS⟩ | exact ⟨rfl, trivial, hS⟩ | exact ⟨trivial, rfl, trivial⟩ | exact ⟨rfl, trivial⟩ | exact rfl
  · intro L vals W hall hφ hS
    have k0 : vals 0 = .agg #[.bool false, .slice a 0 cap, .int .i64 0, .int .i64 0] := hφ 0 (by decide)
    have k1 : vals 1 = .bool true := hφ 1 (by decide)
    have k2 : vals 2 = .bool true := hφ 2 (by decide)
    have k3 : vals 3 = .agg #[.bool false, .slice a' 0 cap', .int .i64 0, .int .i64 0] := hφ 3 (by decide)
    have k4 : vals 4 = .bool true := hφ 4 (by decide)
    have k5 : vals 5 = .bool true := hφ 5 (by decide)
    have k6 : vals 6 = .bool true := hφ 6 (by decide)
    have k7 : vals 7 = .agg #[.bool false, .slice a 0 cap, .int .i64 0, .int .i64 0] := hφ 7 (by decide)
    have k8 : vals 8 = .agg #[.bool false, .int .i64 0, .int .i64 0, .int .i64 0, .int .i64 0, .int .i64 0, .int .i64 0, .int .i64 0, .int .i64 0, .int .i64 0, .int .i64 0] := hφ 8 (by decide)
    have k9 : vals 9 = .agg #[.bool false, .slice a' 0 cap', .int .i64 0, .int .i64 0] := hφ 9 (by decide)
    have k10 : vals 10 = .agg #[.bool false, .int .i64 0, .int .i64 0, .int .i64 0, .int .i64 0, .int .i64 0, .int .i64 0, .int .i64 0, .int .i64 0, .int .i64 0, .int .i64 0] := hφ 10 (by decide)
    have k11 : vals 11 = .bool q := hφ 11 (by decide)
    have k12 : vals 12 = .bool q := hφ 12 (by decide)
    have k13 : vals 13 = .bool q := hφ 13 (by decide)
    simp only [frOf, Act.put, List.setIfInBounds_toArray, List.set_cons_succ, List.set_cons_zero, k0, k1, k2, k3, k4, k5, k6, k7, k8, k9, k10, k11, k12, k13]
    clear k0 k1 k2 k3 k4 k5 k6 k7 k8 k9 k10 k11 k12 k13 hall hφ hS0
    have H := hS.1
    clear hS
    go_wp2_with fail
    go_ret
    exact ⟨ret_bool (by rw [← hq.out]; simp [absIn, g.out, g'.out, arIn]), H.below⟩
set_option maxRecDepth 10000 in
set_option maxHeartbeats 8000000 in
theorem absInI_ft (on : Bool) (a : Option Addr) (b off n cap : Nat) (lo hi : Nat → Int) (c d : Int) (on' : Bool) (a' : Option Addr) (b' off' n' cap' : Nat) (lo' hi' : Nat → Int) (c' d' : Int) (w : World) (hn : n ≤ 1048576) (hn' : n' ≤ 1048576) (hC : BndsAt a b off n lo hi w) (hD : BndsAt a' b' off' n' lo' hi' w) (g : Hid (absOk on n lo hi c d = true)) (g' : Hid (absOk on' n' lo' hi' c' d' = true)) (hon : on = false) (hon' : on' = true) :
    Calls Try.prog 12 #[.agg #[.bool on, .slice a n cap, .int .i64 c, .int .i64 d], .agg #[.bool on', .slice a' n' cap', .int .i64 c', .int .i64 d']] w fun e w' => e = .returned (.bool (absIn on n lo hi c d on' n' lo' hi' c' d')) ∧ Below w.heap.size w w' := by
  subst hon hon'
  obtain ⟨rfl, rfl, rfl⟩ : n = 0 ∧ c = 0 ∧ d = 0 := by have := g.out; simp [absOk] at this; exact this
  obtain rfl : n' = 4 := by have := g'.out; simp [absOk] at this; exact this.1
  have e1 := hD.at_ (by omega)
  subst e1
  obtain ⟨q, hq'⟩ : ∃ q, arIn false true (fun _ => 0) (fun _ => 0) (arL true lo' c') (arL true hi' d') = q := ⟨_, rfl⟩
  have hq : Hid (arIn false true (fun _ => 0) (fun _ => 0) (arL true lo' c') (arL true hi' d') = q) := hq'
  clear hq'
  have H : HeldL w [(w.heap.size + 1, [Value.bool true, .slice (some ⟨b', off', none⟩) 4 cap', .int .i64 c', .int .i64 d']), (w.heap.size, [Value.bool false, .slice a 0 cap, .int .i64 0, .int .i64 0])] ((w.alloc (.cells #[.bool false, .slice a 0 cap, .int .i64 0, .int .i64 0] 27)).alloc (.cells #[.bool true, .slice (some ⟨b', off', none⟩) 4 cap', .int .i64 c', .int .i64 d'] 27)) := by
    have e1 : w.heap.size + 1 = (w.alloc (.cells #[.bool false, .slice a 0 cap, .int .i64 0, .int .i64 0] 27)).heap.size := by simp
    rw [e1]
    exact HeldL.newL (vs := [Value.bool true, .slice (some ⟨b', off', none⟩) 4 cap', .int .i64 c', .int .i64 d']) (HeldL.newL (vs := [Value.bool false, .slice a 0 cap, .int .i64 0, .int .i64 0]) (HeldL.nil w))
  obtain ⟨Lb, hLb⟩ : ∃ L, L = [(w.heap.size + 1, [Value.bool true, .slice (some ⟨b', off', none⟩) 4 cap', .int .i64 c', .int .i64 d']), (w.heap.size, [Value.bool false, .slice a 0 cap, .int .i64 0, .int .i64 0])] := ⟨_, rfl⟩
  have m0 : (w.heap.size, [Value.bool false, .slice a 0 cap, .int .i64 0, .int .i64 0]) ∈ Lb := by rw [hLb]; simp
  have m1 : (w.heap.size + 1, [Value.bool true, .slice (some ⟨b', off', none⟩) 4 cap', .int .i64 c', .int .i64 d']) ∈ Lb := by rw [hLb]; simp
  rw [← hLb] at H
  clear hLb
  have I := hC.next H.below
  have J := hD.next H.below
  clear hC hD
  obtain ⟨VV, hVV⟩ : ∃ V, V = ((w.alloc (.cells #[.bool false, .slice a 0 cap, .int .i64 0, .int .i64 0] 27)).alloc (.cells #[.bool true, .slice (some ⟨b', off', none⟩) 4 cap', .int .i64 c', .int .i64 d'] 27)) := ⟨_, rfl⟩
  rw [← hVV] at H I J
  have hS0 : HX w VV Lb VV.drew := ⟨H.drew, (Below.refl _ VV).drew⟩
  clear H
  go_enter Try.func12, Try.ntmps12
  go_wp2_with fail
  rw [← hVV]
  clear hVV
  refine region_inv3 [(0, 5), (1, 6), (2, 7), (3, 8), (4, 9), (5, 10), (6, 11), (7, 12), (8, 13), (9, 14), (10, 15), (11, 16), (12, 17), (13, 4)]
    (fun j v _ => match j with
      | 0 => Is (.agg #[.bool false, .slice a 0 cap, .int .i64 0, .int .i64 0]) v
      | 1 => Is (.bool true) v
      | 2 => Is (.bool true) v
      | 3 => Is (.agg #[.bool true, .slice (some ⟨b', off', none⟩) 4 cap', .int .i64 c', .int .i64 d']) v
      | 4 => Is (.bool true) v
      | 5 => Is (.bool true) v
      | 6 => Is (.bool true) v
      | 7 => Is (.agg #[.bool false, .slice a 0 cap, .int .i64 0, .int .i64 0]) v
      | 8 => Is (.agg #[.bool false, .int .i64 0, .int .i64 0, .int .i64 0, .int .i64 0, .int .i64 0, .int .i64 0, .int .i64 0, .int .i64 0, .int .i64 0, .int .i64 0]) v
      | 9 => Is (.agg #[.bool true, .slice (some ⟨b', off', none⟩) 4 cap', .int .i64 c', .int .i64 d']) v
      | 10 => Is (.agg #[.bool true, .int .i64 (lo' 0), .int .i64 (hi' 0), .int .i64 (lo' 1), .int .i64 (hi' 1), .int .i64 (lo' 2), .int .i64 (hi' 2), .int .i64 (lo' 3), .int .i64 (hi' 3), .int .i64 c', .int .i64 d']) v
      | 11 => Is (.bool q) v
      | 12 => Is (.bool q) v
      | 13 => Is (.bool q) v
      | _ => True)
    (fun _ W => HX w VV Lb W) TT
    (by kernel_rfl) (by kernel_rfl) (by kernel_rfl) (by kernel_rfl) (by kernel_rfl) rfl hS0 (fun i j v W W' _ h _ => h) ?_ ?_
  · intro i L vals W hi' hφ hS hL hd
    have hi2 : i < 14 := hi'
    clear hi'
    rcases (show i = 0 ∨ i = 1 ∨ i = 2 ∨ i = 3 ∨ i = 4 ∨ i = 5 ∨ i = 6 ∨ i = 7 ∨ i = 8 ∨ i = 9 ∨ i = 10 ∨ i = 11 ∨ i = 12 ∨ i = 13 by omega) with rfl | rfl | rfl | rfl | rfl | rfl | rfl | rfl | rfl | rfl | rfl | rfl | rfl | rfl
    · have c0 := hS.cell m0 (i := 0) rfl
      have c1 := hS.cell m0 (i := 1) rfl
      have c2 := hS.cell m0 (i := 2) rfl
      have c3 := hS.cell m0 (i := 3) rfl
      dsimp only at c0 c1 c2 c3
      refine wpAt_of rfl rfl ?_
      simp only [frOf, Act.put]
      go_wp2_with fail
      first | exact ⟨trivial, rfl, trivial, hS⟩ | exact ⟨rfl, trivial, hS⟩ | exact ⟨trivial, rfl, trivial⟩ | exact ⟨rfl, trivial⟩ | exact rfl
    · have k0 : vals 0 = .agg #[.bool false, .slice a 0 cap, .int .i64 0, .int .i64 0] := hφ 0 (hd 0 (by decide))
      refine wpAt_of rfl rfl ?_
      simp only [frOf, Act.put]
      go_wp2_with fail
      refine (absOkI _ _ _ _ _ _ _ _ _ _ _ hn (I.next hS.beh)).mono ?_
      rintro e W' ⟨rfl, hb⟩
      rw [g.out]
      go_wp2_with fail
      first | exact ⟨trivial, rfl, trivial, HX.next hb hS⟩ | exact ⟨rfl, trivial, HX.next hb hS⟩ | exact ⟨trivial, rfl, trivial⟩ | exact ⟨rfl, trivial⟩ | exact rfl
    · have k1 : vals 1 = .bool true := hφ 1 (hd 1 (by decide))
      refine wpAt_of rfl rfl ?_
      simp only [frOf, Act.put]
      go_wp2_with fail
      first | exact ⟨trivial, rfl, trivial, hS⟩ | exact ⟨rfl, trivial, hS⟩ | exact ⟨trivial, rfl, trivial⟩ | exact ⟨rfl, trivial⟩ | exact rfl
    · have k2 : vals 2 = .bool true := hφ 2 (hd 2 (by decide))
      have c0 := hS.cell m1 (i := 0) rfl
      have c1 := hS.cell m1 (i := 1) rfl
      have c2 := hS.cell m1 (i := 2) rfl
      have c3 := hS.cell m1 (i := 3) rfl
      dsimp only at c0 c1 c2 c3
      simp only [wpAt, List.getElem?_toArray, List.getElem?_cons_succ, List.getElem?_cons_zero, slotOf, frOf, Act.put]
      go_wp2_with fail
      first | exact ⟨trivial, rfl, trivial, hS⟩ | exact ⟨rfl, trivial, hS⟩ | exact ⟨trivial, rfl, trivial⟩ | exact ⟨rfl, trivial⟩ | exact rfl
    · have k2 : vals 2 = .bool true := hφ 2 (hd 2 (by decide))
      have k3 : vals 3 = .agg #[.bool true, .slice (some ⟨b', off', none⟩) 4 cap', .int .i64 c', .int .i64 d'] := hφ 3 (hd 3 (by decide))
      simp only [wpAt, List.getElem?_toArray, List.getElem?_cons_succ, List.getElem?_cons_zero, slotOf, frOf, Act.put]
      go_wp2_with fail
      refine (absOkI _ _ _ _ _ _ _ _ _ _ _ hn' (J.next hS.beh)).mono ?_
      rintro e W' ⟨rfl, hb⟩
      rw [g'.out]
      go_wp2_with fail
      first | exact ⟨trivial, rfl, trivial, HX.next hb hS⟩ | exact ⟨rfl, trivial, HX.next hb hS⟩ | exact ⟨trivial, rfl, trivial⟩ | exact ⟨rfl, trivial⟩ | exact rfl
    · have k2 : vals 2 = .bool true := hφ 2 (hd 2 (by decide))
      have k4 : vals 4 = .bool true := hφ 4 (hd 4 (by decide))
      refine wpAt_of rfl rfl ?_
      simp only [frOf, Act.put]
      go_wp2_with fail
      first | exact ⟨trivial, rfl, trivial, hS⟩ | exact ⟨rfl, trivial, hS⟩ | exact ⟨trivial, rfl, trivial⟩ | exact ⟨rfl, trivial⟩ | exact rfl
    · have k5 : vals 5 = .bool true := hφ 5 (hd 5 (by decide))
      refine wpAt_of rfl rfl ?_
      simp only [frOf, Act.put]
      go_wp2_with fail
      first | exact ⟨trivial, rfl, trivial, hS⟩ | exact ⟨rfl, trivial, hS⟩ | exact ⟨trivial, rfl, trivial⟩ | exact ⟨rfl, trivial⟩ | exact rfl
    · have k6 : vals 6 = .bool true := hφ 6 (hd 6 (by decide))
      have c0 := hS.cell m0 (i := 0) rfl
      have c1 := hS.cell m0 (i := 1) rfl
      have c2 := hS.cell m0 (i := 2) rfl
      have c3 := hS.cell m0 (i := 3) rfl
      dsimp only at c0 c1 c2 c3
      simp only [wpAt, List.getElem?_toArray, List.getElem?_cons_succ, List.getElem?_cons_zero, slotOf, frOf, Act.put]
      go_wp2_with fail
      first | exact ⟨trivial, rfl, trivial, hS⟩ | exact ⟨rfl, trivial, hS⟩ | exact ⟨trivial, rfl, trivial⟩ | exact ⟨rfl, trivial⟩ | exact rfl
    · have k6 : vals 6 = .bool true := hφ 6 (hd 6 (by decide))
      have k7 : vals 7 = .agg #[.bool false, .slice a 0 cap, .int .i64 0, .int .i64 0] := hφ 7 (hd 7 (by decide))
      simp only [wpAt, List.getElem?_toArray, List.getElem?_cons_succ, List.getElem?_cons_zero, slotOf, frOf, Act.put]
      go_wp2_with fail
      refine (arrivalF _ _ _).mono ?_
      rintro e W' ⟨rfl, hb⟩
      go_wp2_with fail
      first | exact ⟨trivial, rfl, trivial, HX.next hb hS⟩ | exact ⟨rfl, trivial, HX.next hb hS⟩ | exact ⟨trivial, rfl, trivial⟩ | exact ⟨rfl, trivial⟩ | exact rfl
    · have k6 : vals 6 = .bool true := hφ 6 (hd 6 (by decide))
      have c0 := hS.cell m1 (i := 0) rfl
      have c1 := hS.cell m1 (i := 1) rfl
      have c2 := hS.cell m1 (i := 2) rfl
      have c3 := hS.cell m1 (i := 3) rfl
      dsimp only at c0 c1 c2 c3
      simp only [wpAt, List.getElem?_toArray, List.getElem?_cons_succ, List.getElem?_cons_zero, slotOf, frOf, Act.put]
      go_wp2_with fail
      first | exact ⟨trivial, rfl, trivial, hS⟩ | exact ⟨rfl, trivial, hS⟩ | exact ⟨trivial, rfl, trivial⟩ | exact ⟨rfl, trivial⟩ | exact rfl
    · have k6 : vals 6 = .bool true := hφ 6 (hd 6 (by decide))
      have k9 : vals 9 = .agg #[.bool true, .slice (some ⟨b', off', none⟩) 4 cap', .int .i64 c', .int .i64 d'] := hφ 9 (hd 9 (by decide))
      simp only [wpAt, List.getElem?_toArray, List.getElem?_cons_succ, List.getElem?_cons_zero, slotOf, frOf, Act.put]
      go_wp2_with fail
      refine (arrivalT _ _ _ _ _ _ _ _ _ (J.next hS.beh)).mono ?_
      rintro e W' ⟨rfl, hb⟩
      go_wp2_with fail
      first | exact ⟨trivial, rfl, trivial, HX.next hb hS⟩ | exact ⟨rfl, trivial, HX.next hb hS⟩ | exact ⟨trivial, rfl, trivial⟩ | exact ⟨rfl, trivial⟩ | exact rfl
    · have k6 : vals 6 = .bool true := hφ 6 (hd 6 (by decide))
      have k8 : vals 8 = .agg #[.bool false, .int .i64 0, .int .i64 0, .int .i64 0, .int .i64 0, .int .i64 0, .int .i64 0, .int .i64 0, .int .i64 0, .int .i64 0, .int .i64 0] := hφ 8 (hd 8 (by decide))
      have k10 : vals 10 = .agg #[.bool true, .int .i64 (lo' 0), .int .i64 (hi' 0), .int .i64 (lo' 1), .int .i64 (hi' 1), .int .i64 (lo' 2), .int .i64 (hi' 2), .int .i64 (lo' 3), .int .i64 (hi' 3), .int .i64 c', .int .i64 d'] := hφ 10 (hd 10 (by decide))
      simp only [wpAt, List.getElem?_toArray, List.getElem?_cons_succ, List.getElem?_cons_zero, slotOf, frOf, Act.put]
      go_wp2_with fail
      refine (isInI false true (fun _ => 0) (fun _ => 0) (arL true lo' c') (arL true hi' d') _).mono ?_
      rintro e W' ⟨rfl, hb⟩
      rw [hq.out]
      go_wp2_with fail
      first | exact ⟨trivial, rfl, trivial, HX.next hb hS⟩ | exact ⟨rfl, trivial, HX.next hb hS⟩ | exact ⟨trivial, rfl, trivial⟩ | exact ⟨rfl, trivial⟩ | exact rfl
    · have k6 : vals 6 = .bool true := hφ 6 (hd 6 (by decide))
      have k11 : vals 11 = .bool q := hφ 11 (hd 11 (by decide))
      refine wpAt_of rfl rfl ?_
      simp only [frOf, Act.put]
      go_wp2_with fail
      first | exact ⟨trivial, rfl, trivial, hS⟩ | exact ⟨rfl, trivial, hS⟩ | exact ⟨trivial, rfl, trivial⟩ | exact ⟨rfl, trivial⟩ | exact rfl
    · have k12 : vals 12 = .bool q := hφ 12 (hd 12 (by decide))
      refine wpAt_of rfl rfl ?_
      simp only [frOf, Act.put]
      go_wp2_with fail
      first | exact ⟨trivial, rfl, trivial, hS⟩ | exact ⟨rfl, trivial, hS⟩ | exact ⟨trivial, rfl, trivial⟩ | exact ⟨rfl, trivial⟩ | exact rfl
  · intro L vals W hall hφ hS
    have k0 : vals 0 = .agg #[.bool false, .slice a 0 cap, .int .i64 0, .int .i64 0] := hφ 0 (by decide)
    have k1 : vals 1 = .bool true := hφ 1 (by decide)
    have k2 : vals 2 = .bool true := hφ 2 (by decide)
    have k3 : vals 3 = .agg #[.bool true, .slice (some ⟨b', off', none⟩) 4 cap', .int .i64 c', .int .i64 d'] := hφ 3 (by decide)
    have k4 : vals 4 = .bool true := hφ 4 (by decide)
    have k5 : vals 5 = .bool true := hφ 5 (by decide)
    have k6 : vals 6 = .bool true := hφ 6 (by decide)
    have k7 : vals 7 = .agg #[.bool false, .slice a 0 cap, .int .i64 0, .int .i64 0] := hφ 7 (by decide)
    have k8 : vals 8 = .agg #[.bool false, .int .i64 0, .int .i64 0, .int .i64 0, .int .i64 0, .int .i64 0, .int .i64 0, .int .i64 0, .int .i64 0, .int .i64 0, .int .i64 0] := hφ 8 (by decide)
    have k9 : vals 9 = .agg #[.bool true, .slice (some ⟨b', off', none⟩) 4 cap', .int .i64 c', .int .i64 d'] := hφ 9 (by decide)
    have k10 : vals 10 = .agg #[.bool true, .int .i64 (lo' 0), .int .i64 (hi' 0), .int .i64 (lo' 1), .int .i64 (hi' 1), .int .i64 (lo' 2), .int .i64 (hi' 2), .int .i64 (lo' 3), .int .i64 (hi' 3), .int .i64 c', .int .i64 d'] := hφ 10 (by decide)
    have k11 : vals 11 = .bool q := hφ 11 (by decide)
    have k12 : vals 12 = .bool q := hφ 12 (by decide)
    have k13 : vals 13 = .bool q := hφ 13 (by decide)
    simp only [frOf, Act.put, List.setIfInBounds_toArray, List.set_cons_succ, List.set_cons_zero, k0, k1, k2, k3, k4, k5, k6, k7, k8, k9, k10, k11, k12, k13]
    clear k0 k1 k2 k3 k4 k5 k6 k7 k8 k9 k10 k11 k12 k13 hall hφ hS0
    have H := hS.1
    clear hS
    go_wp2_with fail
    go_ret
    exact ⟨ret_bool (by rw [← hq.out]; simp [absIn, g.out, g'.out, arIn]), H.below⟩
set_option maxRecDepth 10000 in
set_option maxHeartbeats 8000000 in
theorem absInI_tf (on : Bool) (a : Option Addr) (b off n cap : Nat) (lo hi : Nat → Int) (c d : Int) (on' : Bool) (a' : Option Addr) (b' off' n' cap' : Nat) (lo' hi' : Nat → Int) (c' d' : Int) (w : World) (hn : n ≤ 1048576) (hn' : n' ≤ 1048576) (hC : BndsAt a b off n lo hi w) (hD : BndsAt a' b' off' n' lo' hi' w) (g : Hid (absOk on n lo hi c d = true)) (g' : Hid (absOk on' n' lo' hi' c' d' = true)) (hon : on = true) (hon' : on' = false) :
    Calls Try.prog 12 #[.agg #[.bool on, .slice a n cap, .int .i64 c, .int .i64 d], .agg #[.bool on', .slice a' n' cap', .int .i64 c', .int .i64 d']] w fun e w' => e = .returned (.bool (absIn on n lo hi c d on' n' lo' hi' c' d')) ∧ Below w.heap.size w w' := by
  subst hon hon'
  obtain rfl : n = 4 := by have := g.out; simp [absOk] at this; exact this.1
  have e0 := hC.at_ (by omega)
  subst e0
  obtain ⟨rfl, rfl, rfl⟩ : n' = 0 ∧ c' = 0 ∧ d' = 0 := by have := g'.out; simp [absOk] at this; exact this
  obtain ⟨q, hq'⟩ : ∃ q, arIn true false (arL true lo c) (arL true hi d) (fun _ => 0) (fun _ => 0) = q := ⟨_, rfl⟩
  have hq : Hid (arIn true false (arL true lo c) (arL true hi d) (fun _ => 0) (fun _ => 0) = q) := hq'
  clear hq'
  have H : HeldL w [(w.heap.size + 1, [Value.bool false, .slice a' 0 cap', .int .i64 0, .int .i64 0]), (w.heap.size, [Value.bool true, .slice (some ⟨b, off, none⟩) 4 cap, .int .i64 c, .int .i64 d])] ((w.alloc (.cells #[.bool true, .slice (some ⟨b, off, none⟩) 4 cap, .int .i64 c, .int .i64 d] 27)).alloc (.cells #[.bool false, .slice a' 0 cap', .int .i64 0, .int .i64 0] 27)) := by
    have e1 : w.heap.size + 1 = (w.alloc (.cells #[.bool true, .slice (some ⟨b, off, none⟩) 4 cap, .int .i64 c, .int .i64 d] 27)).heap.size := by simp
    rw [e1]
    exact HeldL.newL (vs := [Value.bool false, .slice a' 0 cap', .int .i64 0, .int .i64 0]) (HeldL.newL (vs := [Value.bool true, .slice (some ⟨b, off, none⟩) 4 cap, .int .i64 c, .int .i64 d]) (HeldL.nil w))
  obtain ⟨Lb, hLb⟩ : ∃ L, L = [(w.heap.size + 1, [Value.bool false, .slice a' 0 cap', .int .i64 0, .int .i64 0]), (w.heap.size, [Value.bool true, .slice (some ⟨b, off, none⟩) 4 cap, .int .i64 c, .int .i64 d])] := ⟨_, rfl⟩
  have m0 : (w.heap.size, [Value.bool true, .slice (some ⟨b, off, none⟩) 4 cap, .int .i64 c, .int .i64 d]) ∈ Lb := by rw [hLb]; simp
  have m1 : (w.heap.size + 1, [Value.bool false, .slice a' 0 cap', .int .i64 0, .int .i64 0]) ∈ Lb := by rw [hLb]; simp
  rw [← hLb] at H
  clear hLb
  have I := hC.next H.below
  have J := hD.next H.below
  clear hC hD
  obtain ⟨VV, hVV⟩ : ∃ V, V = ((w.alloc (.cells #[.bool true, .slice (some ⟨b, off, none⟩) 4 cap, .int .i64 c, .int .i64 d] 27)).alloc (.cells #[.bool false, .slice a' 0 cap', .int .i64 0, .int .i64 0] 27)) := ⟨_, rfl⟩
  rw [← hVV] at H I J
  have hS0 : HX w VV Lb VV.drew := ⟨H.drew, (Below.refl _ VV).drew⟩
  clear H
  go_enter Try.func12, Try.ntmps12
  go_wp2_with fail
  rw [← hVV]
  clear hVV
  refine region_inv3 [(0, 5), (1, 6), (2, 7), (3, 8), (4, 9), (5, 10), (6, 11), (7, 12), (8, 13), (9, 14), (10, 15), (11, 16), (12, 17), (13, 4)]
    (fun j v _ => match j with
      | 0 => Is (.agg #[.bool true, .slice (some ⟨b, off, none⟩) 4 cap, .int .i64 c, .int .i64 d]) v
      | 1 => Is (.bool true) v
      | 2 => Is (.bool true) v
      | 3 => Is (.agg #[.bool false, .slice a' 0 cap', .int .i64 0, .int .i64 0]) v
      | 4 => Is (.bool true) v
      | 5 => Is (.bool true) v
      | 6 => Is (.bool true) v
      | 7 => Is (.agg #[.bool true, .slice (some ⟨b, off, none⟩) 4 cap, .int .i64 c, .int .i64 d]) v
      | 8 => Is (.agg #[.bool true, .int .i64 (lo 0), .int .i64 (hi 0), .int .i64 (lo 1), .int .i64 (hi 1), .int .i64 (lo 2), .int .i64 (hi 2), .int .i64 (lo 3), .int .i64 (hi 3), .int .i64 c, .int .i64 d]) v
      | 9 => Is (.agg #[.bool false, .slice a' 0 cap', .int .i64 0, .int .i64 0]) v
      | 10 => Is (.agg #[.bool false, .int .i64 0, .int .i64 0, .int .i64 0, .int .i64 0, .int .i64 0, .int .i64 0, .int .i64 0, .int .i64 0, .int .i64 0, .int .i64 0]) v
      | 11 => Is (.bool q) v
      | 12 => Is (.bool q) v
      | 13 => Is (.bool q) v
      | _ => True)
    (fun _ W => HX w VV Lb W) TT
    (by kernel_rfl) (by kernel_rfl) (by kernel_rfl) (by kernel_rfl) (by kernel_rfl) rfl hS0 (fun i j v W W' _ h _ => h) ?_ ?_
  · intro i L vals W hi' hφ hS hL hd
    have hi2 : i < 14 := hi'
    clear hi'
    rcases (show i = 0 ∨ i = 1 ∨ i = 2 ∨ i = 3 ∨ i = 4 ∨ i = 5 ∨ i = 6 ∨ i = 7 ∨ i = 8 ∨ i = 9 ∨ i = 10 ∨ i = 11 ∨ i = 12 ∨ i = 13 by omega) with rfl | rfl | rfl | rfl | rfl | rfl | rfl | rfl | rfl | rfl | rfl | rfl | rfl | rfl
    · have c0 := hS.cell m0 (i := 0) rfl
      have c1 := hS.cell m0 (i := 1) rfl
      have c2 := hS.cell m0 (i := 2) rfl
      have c3 := hS.cell m0 (i := 3) rfl
      dsimp only at c0 c1 c2 c3
      refine wpAt_of rfl rfl ?_
      simp only [frOf, Act.put]
      go_wp2_with fail
      first | exact ⟨trivial, rfl, trivial, hS⟩ | exact ⟨rfl, trivial, hS⟩ | exact ⟨trivial, rfl, trivial⟩ | exact ⟨rfl, trivial⟩ | exact rfl
    · have k0 : vals 0 = .agg #[.bool true, .slice (some ⟨b, off, none⟩) 4 cap, .int .i64 c, .int .i64 d] := hφ 0 (hd 0 (by decide))
      refine wpAt_of rfl rfl ?_
      simp only [frOf, Act.put]
      go_wp2_with fail
      refine (absOkI _ _ _ _ _ _ _ _ _ _ _ hn (I.next hS.beh)).mono ?_
      rintro e W' ⟨rfl, hb⟩
      rw [g.out]
      go_wp2_with fail
      first | exact ⟨trivial, rfl, trivial, HX.next hb hS⟩ | exact ⟨rfl, trivial, HX.next hb hS⟩ | exact ⟨trivial, rfl, trivial⟩ | exact ⟨rfl, trivial⟩ | exact rfl
    · have k1 : vals 1 = .bool true := hφ 1 (hd 1 (by decide))
      refine wpAt_of rfl rfl ?_
      simp only [frOf, Act.put]
      go_wp2_with fail
      first | exact ⟨trivial, rfl, trivial, hS⟩ | exact ⟨rfl, trivial, hS⟩ | exact ⟨trivial, rfl, trivial⟩ | exact ⟨rfl, trivial⟩ | exact rfl
    · have k2 : vals 2 = .bool true := hφ 2 (hd 2 (by decide))
      have c0 := hS.cell m1 (i := 0) rfl
      have c1 := hS.cell m1 (i := 1) rfl
      have c2 := hS.cell m1 (i := 2) rfl
      have c3 := hS.cell m1 (i := 3) rfl
      dsimp only at c0 c1 c2 c3
      simp only [wpAt, List.getElem?_toArray, List.getElem?_cons_succ, List.getElem?_cons_zero, slotOf, frOf, Act.put]
      go_wp2_with fail
      first | exact ⟨trivial, rfl, trivial, hS⟩ | exact ⟨rfl, trivial, hS⟩ | exact ⟨trivial, rfl, trivial⟩ | exact ⟨rfl, trivial⟩ | exact rfl
    · have k2 : vals 2 = .bool true := hφ 2 (hd 2 (by decide))
      have k3 : vals 3 = .agg #[.bool false, .slice a' 0 cap', .int .i64 0, .int .i64 0] := hφ 3 (hd 3 (by decide))
      simp only [wpAt, List.getElem?_toArray, List.getElem?_cons_succ, List.getElem?_cons_zero, slotOf, frOf, Act.put]
      go_wp2_with fail
      refine (absOkI _ _ _ _ _ _ _ _ _ _ _ hn' (J.next hS.beh)).mono ?_
      rintro e W' ⟨rfl, hb⟩
      rw [g'.out]
      go_wp2_with fail
      first | exact ⟨trivial, rfl, trivial, HX.next hb hS⟩ | exact ⟨rfl, trivial, HX.next hb hS⟩ | exact ⟨trivial, rfl, trivial⟩ | exact ⟨rfl, trivial⟩ | exact rfl
    · have k2 : vals 2 = .bool true := hφ 2 (hd 2 (by decide))
      have k4 : vals 4 = .bool true := hφ 4 (hd 4 (by decide))
      refine wpAt_of rfl rfl ?_
      simp only [frOf, Act.put]
      go_wp2_with fail
      first | exact ⟨trivial, rfl, trivial, hS⟩ | exact ⟨rfl, trivial, hS⟩ | exact ⟨trivial, rfl, trivial⟩ | exact ⟨rfl, trivial⟩ | exact rfl
    · have k5 : vals 5 = .bool true := hφ 5 (hd 5 (by decide))
      refine wpAt_of rfl rfl ?_
      simp only [frOf, Act.put]
      go_wp2_with fail
      first | exact ⟨trivial, rfl, trivial, hS⟩ | exact ⟨rfl, trivial, hS⟩ | exact ⟨trivial, rfl, trivial⟩ | exact ⟨rfl, trivial⟩ | exact rfl
    · have k6 : vals 6 = .bool true := hφ 6 (hd 6 (by decide))
      have c0 := hS.cell m0 (i := 0) rfl
      have c1 := hS.cell m0 (i := 1) rfl
      have c2 := hS.cell m0 (i := 2) rfl
      have c3 := hS.cell m0 (i := 3) rfl
      dsimp only at c0 c1 c2 c3
      simp only [wpAt, List.getElem?_toArray, List.getElem?_cons_succ, List.getElem?_cons_zero, slotOf, frOf, Act.put]
      go_wp2_with fail
      first | exact ⟨trivial, rfl, trivial, hS⟩ | exact ⟨rfl, trivial, hS⟩ | exact ⟨trivial, rfl, trivial⟩ | exact ⟨rfl, trivial⟩ | exact rfl
    · have k6 : vals 6 = .bool true := hφ 6 (hd 6 (by decide))
      have k7 : vals 7 = .agg #[.bool true, .slice (some ⟨b, off, none⟩) 4 cap, .int .i64 c, .int .i64 d] := hφ 7 (hd 7 (by decide))
      simp only [wpAt, List.getElem?_toArray, List.getElem?_cons_succ, List.getElem?_cons_zero, slotOf, frOf, Act.put]
      go_wp2_with fail
      refine (arrivalT _ _ _ _ _ _ _ _ _ (I.next hS.beh)).mono ?_
      rintro e W' ⟨rfl, hb⟩
      go_wp2_with fail
      first | exact ⟨trivial, rfl, trivial, HX.next hb hS⟩ | exact ⟨rfl, trivial, HX.next hb hS⟩ | exact ⟨trivial, rfl, trivial⟩ | exact ⟨rfl, trivial⟩ | exact rfl
    · have k6 : vals 6 = .bool true := hφ 6 (hd 6 (by decide))
      have c0 := hS.cell m1 (i := 0) rfl
      have c1 := hS.cell m1 (i := 1) rfl
      have c2 := hS.cell m1 (i := 2) rfl
      have c3 := hS.cell m1 (i := 3) rfl
      dsimp only at c0 c1 c2 c3
      simp only [wpAt, List.getElem?_toArray, List.getElem?_cons_succ, List.getElem?_cons_zero, slotOf, frOf, Act.put]
      go_wp2_with fail
      first | exact ⟨trivial, rfl, trivial, hS⟩ | exact ⟨rfl, trivial, hS⟩ | exact ⟨trivial, rfl, trivial⟩ | exact ⟨rfl, trivial⟩ | exact rfl
    · have k6 : vals 6 = .bool true := hφ 6 (hd 6 (by decide))
      have k9 : vals 9 = .agg #[.bool false, .slice a' 0 cap', .int .i64 0, .int .i64 0] := hφ 9 (hd 9 (by decide))
      simp only [wpAt, List.getElem?_toArray, List.getElem?_cons_succ, List.getElem?_cons_zero, slotOf, frOf, Act.put]
      go_wp2_with fail
      refine (arrivalF _ _ _).mono ?_
      rintro e W' ⟨rfl, hb⟩
      go_wp2_with fail
      first | exact ⟨trivial, rfl, trivial, HX.next hb hS⟩ | exact ⟨rfl, trivial, HX.next hb hS⟩ | exact ⟨trivial, rfl, trivial⟩ | exact ⟨rfl, trivial⟩ | exact rfl
    · have k6 : vals 6 = .bool true := hφ 6 (hd 6 (by decide))
      have k8 : vals 8 = .agg #[.bool true, .int .i64 (lo 0), .int .i64 (hi 0), .int .i64 (lo 1), .int .i64 (hi 1), .int .i64 (lo 2), .int .i64 (hi 2), .int .i64 (lo 3), .int .i64 (hi 3), .int .i64 c, .int .i64 d] := hφ 8 (hd 8 (by decide))
      have k10 : vals 10 = .agg #[.bool false, .int .i64 0, .int .i64 0, .int .i64 0, .int .i64 0, .int .i64 0, .int .i64 0, .int .i64 0, .int .i64 0, .int .i64 0, .int .i64 0] := hφ 10 (hd 10 (by decide))
      simp only [wpAt, List.getElem?_toArray, List.getElem?_cons_succ, List.getElem?_cons_zero, slotOf, frOf, Act.put]
      go_wp2_with fail
      refine (isInI true false (arL true lo c) (arL true hi d) (fun _ => 0) (fun _ => 0) _).mono ?_
      rintro e W' ⟨rfl, hb⟩
      rw [hq.out]
      go_wp2_with fail
      first | exact ⟨trivial, rfl, trivial, HX.next hb hS⟩ | exact ⟨rfl, trivial, HX.next hb hS⟩ | exact ⟨trivial, rfl, trivial⟩ | exact ⟨rfl, trivial⟩ | exact rfl
    · have k6 : vals 6 = .bool true := hφ 6 (hd 6 (by decide))
      have k11 : vals 11 = .bool q := hφ 11 (hd 11 (by decide))
      refine wpAt_of rfl rfl ?_
      simp only [frOf, Act.put]
      go_wp2_with fail
      first | exact ⟨trivial, rfl, trivial, hS⟩ | exact ⟨rfl, trivial, hS⟩ | exact ⟨trivial, rfl, trivial⟩ | exact ⟨rfl, trivial⟩ | exact rfl
    · have k12 : vals 12 = .bool q := hφ 12 (hd 12 (by decide))
      refine wpAt_of rfl rfl ?_
      simp only [frOf, Act.put]
      go_wp2_with fail
      first | exact ⟨trivial, rfl, trivial, hS⟩ | exact ⟨rfl, trivial, hS⟩ | exact ⟨trivial, rfl, trivial⟩ | exact ⟨rfl, trivial⟩ | exact rfl
  · intro L vals W hall hφ hS
    have k0 : vals 0 = .agg #[.bool true, .slice (some ⟨b, off, none⟩) 4 cap, .int .i64 c, .int .i64 d] := hφ 0 (by decide)
    have k1 : vals 1 = .bool true := hφ 1 (by decide)
    have k2 : vals 2 = .bool true := hφ 2 (by decide)
    have k3 : vals 3 = .agg #[.bool false, .slice a' 0 cap', .int .i64 0, .int .i64 0] := hφ 3 (by decide)
    have k4 : vals 4 = .bool true := hφ 4 (by decide)
    have k5 : vals 5 = .bool true := hφ 5 (by decide)
    have k6 : vals 6 = .bool true := hφ 6 (by decide)
    have k7 : vals 7 = .agg #[.bool true, .slice (some ⟨b, off, none⟩) 4 cap, .int .i64 c, .int .i64 d] := hφ 7 (by decide)
    have k8 : vals 8 = .agg #[.bool true, .int .i64 (lo 0), .int .i64 (hi 0), .int .i64 (lo 1), .int .i64 (hi 1), .int .i64 (lo 2), .int .i64 (hi 2), .int .i64 (lo 3), .int .i64 (hi 3), .int .i64 c, .int .i64 d] := hφ 8 (by decide)
    have k9 : vals 9 = .agg #[.bool false, .slice a' 0 cap', .int .i64 0, .int .i64 0] := hφ 9 (by decide)
    have k10 : vals 10 = .agg #[.bool false, .int .i64 0, .int .i64 0, .int .i64 0, .int .i64 0, .int .i64 0, .int .i64 0, .int .i64 0, .int .i64 0, .int .i64 0, .int .i64 0] := hφ 10 (by decide)
    have k11 : vals 11 = .bool q := hφ 11 (by decide)
    have k12 : vals 12 = .bool q := hφ 12 (by decide)
    have k13 : vals 13 = .bool q := hφ 13 (by decide)
    simp only [frOf, Act.put, List.setIfInBounds_toArray, List.set_cons_succ, List.set_cons_zero, k0, k1, k2, k3, k4, k5, k6, k7, k8, k9, k10, k11, k12, k13]
    clear k0 k1 k2 k3 k4 k5 k6 k7 k8 k9 k10 k11 k12 k13 hall hφ hS0
    have H := hS.1
    clear hS
    go_wp2_with fail
    go_ret
    exact ⟨ret_bool (by rw [← hq.out]; simp [absIn, g.out, g'.out, arIn]), H.below⟩
set_option maxRecDepth 10000 in
set_option maxHeartbeats 8000000 in
theorem absInI_tt (on : Bool) (a : Option Addr) (b off n cap : Nat) (lo hi : Nat → Int) (c d : Int) (on' : Bool) (a' : Option Addr) (b' off' n' cap' : Nat) (lo' hi' : Nat → Int) (c' d' : Int) (w : World) (hn : n ≤ 1048576) (hn' : n' ≤ 1048576) (hC : BndsAt a b off n lo hi w) (hD : BndsAt a' b' off' n' lo' hi' w) (g : Hid (absOk on n lo hi c d = true)) (g' : Hid (absOk on' n' lo' hi' c' d' = true)) (hon : on = true) (hon' : on' = true) :
    Calls Try.prog 12 #[.agg #[.bool on, .slice a n cap, .int .i64 c, .int .i64 d], .agg #[.bool on', .slice a' n' cap', .int .i64 c', .int .i64 d']] w fun e w' => e = .returned (.bool (absIn on n lo hi c d on' n' lo' hi' c' d')) ∧ Below w.heap.size w w' := by
  subst hon hon'
  obtain rfl : n = 4 := by have := g.out; simp [absOk] at this; exact this.1
  have e0 := hC.at_ (by omega)
  subst e0
  obtain rfl : n' = 4 := by have := g'.out; simp [absOk] at this; exact this.1
  have e1 := hD.at_ (by omega)
  subst e1
  obtain ⟨q, hq'⟩ : ∃ q, arIn true true (arL true lo c) (arL true hi d) (arL true lo' c') (arL true hi' d') = q := ⟨_, rfl⟩
  have hq : Hid (arIn true true (arL true lo c) (arL true hi d) (arL true lo' c') (arL true hi' d') = q) := hq'
  clear hq'
  have H : HeldL w [(w.heap.size + 1, [Value.bool true, .slice (some ⟨b', off', none⟩) 4 cap', .int .i64 c', .int .i64 d']), (w.heap.size, [Value.bool true, .slice (some ⟨b, off, none⟩) 4 cap, .int .i64 c, .int .i64 d])] ((w.alloc (.cells #[.bool true, .slice (some ⟨b, off, none⟩) 4 cap, .int .i64 c, .int .i64 d] 27)).alloc (.cells #[.bool true, .slice (some ⟨b', off', none⟩) 4 cap', .int .i64 c', .int .i64 d'] 27)) := by
    have e1 : w.heap.size + 1 = (w.alloc (.cells #[.bool true, .slice (some ⟨b, off, none⟩) 4 cap, .int .i64 c, .int .i64 d] 27)).heap.size := by simp
    rw [e1]
    exact HeldL.newL (vs := [Value.bool true, .slice (some ⟨b', off', none⟩) 4 cap', .int .i64 c', .int .i64 d']) (HeldL.newL (vs := [Value.bool true, .slice (some ⟨b, off, none⟩) 4 cap, .int .i64 c, .int .i64 d]) (HeldL.nil w))
  obtain ⟨Lb, hLb⟩ : ∃ L, L = [(w.heap.size + 1, [Value.bool true, .slice (some ⟨b', off', none⟩) 4 cap', .int .i64 c', .int .i64 d']), (w.heap.size, [Value.bool true, .slice (some ⟨b, off, none⟩) 4 cap, .int .i64 c, .int .i64 d])] := ⟨_, rfl⟩
  have m0 : (w.heap.size, [Value.bool true, .slice (some ⟨b, off, none⟩) 4 cap, .int .i64 c, .int .i64 d]) ∈ Lb := by rw [hLb]; simp
  have m1 : (w.heap.size + 1, [Value.bool true, .slice (some ⟨b', off', none⟩) 4 cap', .int .i64 c', .int .i64 d']) ∈ Lb := by rw [hLb]; simp
  rw [← hLb] at H
  clear hLb
  have I := hC.next H.below
  have J := hD.next H.below
  clear hC hD
  obtain ⟨VV, hVV⟩ : ∃ V, V = ((w.alloc (.cells #[.bool true, .slice (some ⟨b, off, none⟩) 4 cap, .int .i64 c, .int .i64 d] 27)).alloc (.cells #[.bool true, .slice (some ⟨b', off', none⟩) 4 cap', .int .i64 c', .int .i64 d'] 27)) := ⟨_, rfl⟩
  rw [← hVV] at H I J
  have hS0 : HX w VV Lb VV.drew := ⟨H.drew, (Below.refl _ VV).drew⟩
  clear H
  go_enter Try.func12, Try.ntmps12
  go_wp2_with fail
  rw [← hVV]
  clear hVV
  refine region_inv3 [(0, 5), (1, 6), (2, 7), (3, 8), (4, 9), (5, 10), (6, 11), (7, 12), (8, 13), (9, 14), (10, 15), (11, 16), (12, 17), (13, 4)]
    (fun j v _ => match j with
      | 0 => Is (.agg #[.bool true, .slice (some ⟨b, off, none⟩) 4 cap, .int .i64 c, .int .i64 d]) v
      | 1 => Is (.bool true) v
      | 2 => Is (.bool true) v
      | 3 => Is (.agg #[.bool true, .slice (some ⟨b', off', none⟩) 4 cap', .int .i64 c', .int .i64 d']) v
      | 4 => Is (.bool true) v
      | 5 => Is (.bool true) v
      | 6 => Is (.bool true) v
      | 7 => Is (.agg #[.bool true, .slice (some ⟨b, off, none⟩) 4 cap, .int .i64 c, .int .i64 d]) v
      | 8 => Is (.agg #[.bool true, .int .i64 (lo 0), .int .i64 (hi 0), .int .i64 (lo 1), .int .i64 (hi 1), .int .i64 (lo 2), .int .i64 (hi 2), .int .i64 (lo 3), .int .i64 (hi 3), .int .i64 c, .int .i64 d]) v
      | 9 => Is (.agg #[.bool true, .slice (some ⟨b', off', none⟩) 4 cap', .int .i64 c', .int .i64 d']) v
      | 10 => Is (.agg #[.bool true, .int .i64 (lo' 0), .int .i64 (hi' 0), .int .i64 (lo' 1), .int .i64 (hi' 1), .int .i64 (lo' 2), .int .i64 (hi' 2), .int .i64 (lo' 3), .int .i64 (hi' 3), .int .i64 c', .int .i64 d']) v
      | 11 => Is (.bool q) v
      | 12 => Is (.bool q) v
      | 13 => Is (.bool q) v
      | _ => True)
    (fun _ W => HX w VV Lb W) TT
    (by kernel_rfl) (by kernel_rfl) (by kernel_rfl) (by kernel_rfl) (by kernel_rfl) rfl hS0 (fun i j v W W' _ h _ => h) ?_ ?_
  · intro i L vals W hi' hφ hS hL hd
    have hi2 : i < 14 := hi'
    clear hi'
    rcases (show i = 0 ∨ i = 1 ∨ i = 2 ∨ i = 3 ∨ i = 4 ∨ i = 5 ∨ i = 6 ∨ i = 7 ∨ i = 8 ∨ i = 9 ∨ i = 10 ∨ i = 11 ∨ i = 12 ∨ i = 13 by omega) with rfl | rfl | rfl | rfl | rfl | rfl | rfl | rfl | rfl | rfl | rfl | rfl | rfl | rfl
    · have c0 := hS.cell m0 (i := 0) rfl
      have c1 := hS.cell m0 (i := 1) rfl
      have c2 := hS.cell m0 (i := 2) rfl
      have c3 := hS.cell m0 (i := 3) rfl
      dsimp only at c0 c1 c2 c3
      refine wpAt_of rfl rfl ?_
      simp only [frOf, Act.put]
      go_wp2_with fail
      first | exact ⟨trivial, rfl, trivial, hS⟩ | exact ⟨rfl, trivial, hS⟩ | exact ⟨trivial, rfl, trivial⟩ | exact ⟨rfl, trivial⟩ | exact rfl
    · have k0 : vals 0 = .agg #[.bool true, .slice (some ⟨b, off, none⟩) 4 cap, .int .i64 c, .int .i64 d] := hφ 0 (hd 0 (by decide))
      refine wpAt_of rfl rfl ?_
      simp only [frOf, Act.put]
      go_wp2_with fail
      refine (absOkI _ _ _ _ _ _ _ _ _ _ _ hn (I.next hS.beh)).mono ?_
      rintro e W' ⟨rfl, hb⟩
      rw [g.out]
      go_wp2_with fail
      first | exact ⟨trivial, rfl, trivial, HX.next hb hS⟩ | exact ⟨rfl, trivial, HX.next hb hS⟩ | exact ⟨trivial, rfl, trivial⟩ | exact ⟨rfl, trivial⟩ | exact rfl
    · have k1 : vals 1 = .bool true := hφ 1 (hd 1 (by decide))
      refine wpAt_of rfl rfl ?_
      simp only [frOf, Act.put]
      go_wp2_with fail
      first | exact ⟨trivial, rfl, trivial, hS⟩ | exact ⟨rfl, trivial, hS⟩ | exact ⟨trivial, rfl, trivial⟩ | exact ⟨rfl, trivial⟩ | exact rfl
    · have k2 : vals 2 = .bool true := hφ 2 (hd 2 (by decide))
      have c0 := hS.cell m1 (i := 0) rfl
      have c1 := hS.cell m1 (i := 1) rfl
      have c2 := hS.cell m1 (i := 2) rfl
      have c3 := hS.cell m1 (i := 3) rfl
      dsimp only at c0 c1 c2 c3
      simp only [wpAt, List.getElem?_toArray, List.getElem?_cons_succ, List.getElem?_cons_zero, slotOf, frOf, Act.put]
      go_wp2_with fail
      first | exact ⟨trivial, rfl, trivial, hS⟩ | exact ⟨rfl, trivial, hS⟩ | exact ⟨trivial, rfl, trivial⟩ | exact ⟨rfl, trivial⟩ | exact rfl
    · have k2 : vals 2 = .bool true := hφ 2 (hd 2 (by decide))
      have k3 : vals 3 = .agg #[.bool true, .slice (some ⟨b', off', none⟩) 4 cap', .int .i64 c', .int .i64 d'] := hφ 3 (hd 3 (by decide))
      simp only [wpAt, List.getElem?_toArray, List.getElem?_cons_succ, List.getElem?_cons_zero, slotOf, frOf, Act.put]
      go_wp2_with fail
      refine (absOkI _ _ _ _ _ _ _ _ _ _ _ hn' (J.next hS.beh)).mono ?_
      rintro e W' ⟨rfl, hb⟩
      rw [g'.out]
      go_wp2_with fail
      first | exact ⟨trivial, rfl, trivial, HX.next hb hS⟩ | exact ⟨rfl, trivial, HX.next hb hS⟩ | exact ⟨trivial, rfl, trivial⟩ | exact ⟨rfl, trivial⟩ | exact rfl
    · have k2 : vals 2 = .bool true := hφ 2 (hd 2 (by decide))
      have k4 : vals 4 = .bool true := hφ 4 (hd 4 (by decide))
      refine wpAt_of rfl rfl ?_
      simp only [frOf, Act.put]
      go_wp2_with fail
      first | exact ⟨trivial, rfl, trivial, hS⟩ | exact ⟨rfl, trivial, hS⟩ | exact ⟨trivial, rfl, trivial⟩ | exact ⟨rfl, trivial⟩ | exact rfl
    · have k5 : vals 5 = .bool true := hφ 5 (hd 5 (by decide))
      refine wpAt_of rfl rfl ?_
      simp only [frOf, Act.put]
      go_wp2_with fail
      first | exact ⟨trivial, rfl, trivial, hS⟩ | exact ⟨rfl, trivial, hS⟩ | exact ⟨trivial, rfl, trivial⟩ | exact ⟨rfl, trivial⟩ | exact rfl
    · have k6 : vals 6 = .bool true := hφ 6 (hd 6 (by decide))
      have c0 := hS.cell m0 (i := 0) rfl
      have c1 := hS.cell m0 (i := 1) rfl
      have c2 := hS.cell m0 (i := 2) rfl
      have c3 := hS.cell m0 (i := 3) rfl
      dsimp only at c0 c1 c2 c3
      simp only [wpAt, List.getElem?_toArray, List.getElem?_cons_succ, List.getElem?_cons_zero, slotOf, frOf, Act.put]
      go_wp2_with fail
      first | exact ⟨trivial, rfl, trivial, hS⟩ | exact ⟨rfl, trivial, hS⟩ | exact ⟨trivial, rfl, trivial⟩ | exact ⟨rfl, trivial⟩ | exact rfl
    · have k6 : vals 6 = .bool true := hφ 6 (hd 6 (by decide))
      have k7 : vals 7 = .agg #[.bool true, .slice (some ⟨b, off, none⟩) 4 cap, .int .i64 c, .int .i64 d] := hφ 7 (hd 7 (by decide))
      simp only [wpAt, List.getElem?_toArray, List.getElem?_cons_succ, List.getElem?_cons_zero, slotOf, frOf, Act.put]
      go_wp2_with fail
      refine (arrivalT _ _ _ _ _ _ _ _ _ (I.next hS.beh)).mono ?_
      rintro e W' ⟨rfl, hb⟩
      go_wp2_with fail
      first | exact ⟨trivial, rfl, trivial, HX.next hb hS⟩ | exact ⟨rfl, trivial, HX.next hb hS⟩ | exact ⟨trivial, rfl, trivial⟩ | exact ⟨rfl, trivial⟩ | exact rfl
    · have k6 : vals 6 = .bool true := hφ 6 (hd 6 (by decide))
      have c0 := hS.cell m1 (i := 0) rfl
      have c1 := hS.cell m1 (i := 1) rfl
      have c2 := hS.cell m1 (i := 2) rfl
      have c3 := hS.cell m1 (i := 3) rfl
      dsimp only at c0 c1 c2 c3
      simp only [wpAt, List.getElem?_toArray, List.getElem?_cons_succ, List.getElem?_cons_zero, slotOf, frOf, Act.put]
      go_wp2_with fail
      first | exact ⟨trivial, rfl, trivial, hS⟩ | exact ⟨rfl, trivial, hS⟩ | exact ⟨trivial, rfl, trivial⟩ | exact ⟨rfl, trivial⟩ | exact rfl
    · have k6 : vals 6 = .bool true := hφ 6 (hd 6 (by decide))
      have k9 : vals 9 = .agg #[.bool true, .slice (some ⟨b', off', none⟩) 4 cap', .int .i64 c', .int .i64 d'] := hφ 9 (hd 9 (by decide))
      simp only [wpAt, List.getElem?_toArray, List.getElem?_cons_succ, List.getElem?_cons_zero, slotOf, frOf, Act.put]
      go_wp2_with fail
      refine (arrivalT _ _ _ _ _ _ _ _ _ (J.next hS.beh)).mono ?_
      rintro e W' ⟨rfl, hb⟩
      go_wp2_with fail
      first | exact ⟨trivial, rfl, trivial, HX.next hb hS⟩ | exact ⟨rfl, trivial, HX.next hb hS⟩ | exact ⟨trivial, rfl, trivial⟩ | exact ⟨rfl, trivial⟩ | exact rfl
    · have k6 : vals 6 = .bool true := hφ 6 (hd 6 (by decide))
      have k8 : vals 8 = .agg #[.bool true, .int .i64 (lo 0), .int .i64 (hi 0), .int .i64 (lo 1), .int .i64 (hi 1), .int .i64 (lo 2), .int .i64 (hi 2), .int .i64 (lo 3), .int .i64 (hi 3), .int .i64 c, .int .i64 d] := hφ 8 (hd 8 (by decide))
      have k10 : vals 10 = .agg #[.bool true, .int .i64 (lo' 0), .int .i64 (hi' 0), .int .i64 (lo' 1), .int .i64 (hi' 1), .int .i64 (lo' 2), .int .i64 (hi' 2), .int .i64 (lo' 3), .int .i64 (hi' 3), .int .i64 c', .int .i64 d'] := hφ 10 (hd 10 (by decide))
      simp only [wpAt, List.getElem?_toArray, List.getElem?_cons_succ, List.getElem?_cons_zero, slotOf, frOf, Act.put]
      go_wp2_with fail
      refine (isInI true true (arL true lo c) (arL true hi d) (arL true lo' c') (arL true hi' d') _).mono ?_
      rintro e W' ⟨rfl, hb⟩
      rw [hq.out]
      go_wp2_with fail
      first | exact ⟨trivial, rfl, trivial, HX.next hb hS⟩ | exact ⟨rfl, trivial, HX.next hb hS⟩ | exact ⟨trivial, rfl, trivial⟩ | exact ⟨rfl, trivial⟩ | exact rfl
    · have k6 : vals 6 = .bool true := hφ 6 (hd 6 (by decide))
      have k11 : vals 11 = .bool q := hφ 11 (hd 11 (by decide))
      refine wpAt_of rfl rfl ?_
      simp only [frOf, Act.put]
      go_wp2_with fail
      first | exact ⟨trivial, rfl, trivial, hS⟩ | exact ⟨rfl, trivial, hS⟩ | exact ⟨trivial, rfl, trivial⟩ | exact ⟨rfl, trivial⟩ | exact rfl
    · have k12 : vals 12 = .bool q := hφ 12 (hd 12 (by decide))
      refine wpAt_of rfl rfl ?_
      simp only [frOf, Act.put]
      go_wp2_with fail
      first | exact ⟨trivial, rfl, trivial, hS⟩ | exact ⟨rfl, trivial, hS⟩ | exact ⟨trivial, rfl, trivial⟩ | exact ⟨rfl, trivial⟩ | exact rfl
  · intro L vals W hall hφ hS
    have k0 : vals 0 = .agg #[.bool true, .slice (some ⟨b, off, none⟩) 4 cap, .int .i64 c, .int .i64 d] := hφ 0 (by decide)
    have k1 : vals 1 = .bool true := hφ 1 (by decide)
    have k2 : vals 2 = .bool true := hφ 2 (by decide)
    have k3 : vals 3 = .agg #[.bool true, .slice (some ⟨b', off', none⟩) 4 cap', .int .i64 c', .int .i64 d'] := hφ 3 (by decide)
    have k4 : vals 4 = .bool true := hφ 4 (by decide)
    have k5 : vals 5 = .bool true := hφ 5 (by decide)
    have k6 : vals 6 = .bool true := hφ 6 (by decide)
    have k7 : vals 7 = .agg #[.bool true, .slice (some ⟨b, off, none⟩) 4 cap, .int .i64 c, .int .i64 d] := hφ 7 (by decide)
    have k8 : vals 8 = .agg #[.bool true, .int .i64 (lo 0), .int .i64 (hi 0), .int .i64 (lo 1), .int .i64 (hi 1), .int .i64 (lo 2), .int .i64 (hi 2), .int .i64 (lo 3), .int .i64 (hi 3), .int .i64 c, .int .i64 d] := hφ 8 (by decide)
    have k9 : vals 9 = .agg #[.bool true, .slice (some ⟨b', off', none⟩) 4 cap', .int .i64 c', .int .i64 d'] := hφ 9 (by decide)
    have k10 : vals 10 = .agg #[.bool true, .int .i64 (lo' 0), .int .i64 (hi' 0), .int .i64 (lo' 1), .int .i64 (hi' 1), .int .i64 (lo' 2), .int .i64 (hi' 2), .int .i64 (lo' 3), .int .i64 (hi' 3), .int .i64 c', .int .i64 d'] := hφ 10 (by decide)
    have k11 : vals 11 = .bool q := hφ 11 (by decide)
    have k12 : vals 12 = .bool q := hφ 12 (by decide)
    have k13 : vals 13 = .bool q := hφ 13 (by decide)
    simp only [frOf, Act.put, List.setIfInBounds_toArray, List.set_cons_succ, List.set_cons_zero, k0, k1, k2, k3, k4, k5, k6, k7, k8, k9, k10, k11, k12, k13]
    clear k0 k1 k2 k3 k4 k5 k6 k7 k8 k9 k10 k11 k12 k13 hall hφ hS0
    have H := hS.1
    clear hS
    go_wp2_with fail
    go_ret
    exact ⟨ret_bool (by rw [← hq.out]; simp [absIn, g.out, g'.out, arIn, inTo, arL, Bool.and_comm, Bool.and_assoc]), H.below⟩
theorem absInI (on : Bool) (a : Option Addr) (b off n cap : Nat) (lo hi : Nat → Int) (c d : Int) (on' : Bool) (a' : Option Addr) (b' off' n' cap' : Nat) (lo' hi' : Nat → Int) (c' d' : Int) (w : World) (hn : n ≤ 1048576) (hn' : n' ≤ 1048576) (hC : BndsAt a b off n lo hi w) (hD : BndsAt a' b' off' n' lo' hi' w) :
    Calls Try.prog 12 #[.agg #[.bool on, .slice a n cap, .int .i64 c, .int .i64 d], .agg #[.bool on', .slice a' n' cap', .int .i64 c', .int .i64 d']] w fun e w' => e = .returned (.bool (absIn on n lo hi c d on' n' lo' hi' c' d')) ∧ Below w.heap.size w w' := by
  cases g : absOk on n lo hi c d
  · exact absInI_0 _ _ _ _ _ _ _ _ _ _ _ _ _ _ _ _ _ _ _ _ _ hn hn' hC hD g
  cases g' : absOk on' n' lo' hi' c' d'
  · exact absInI_1 _ _ _ _ _ _ _ _ _ _ _ _ _ _ _ _ _ _ _ _ _ hn hn' hC hD g g'
  cases ho : on
  · cases ho' : on'
    · subst ho ho'; exact absInI_ff _ _ _ _ _ _ _ _ _ _ _ _ _ _ _ _ _ _ _ _ _ hn hn' hC hD g g' rfl rfl
    · subst ho ho'; exact absInI_ft _ _ _ _ _ _ _ _ _ _ _ _ _ _ _ _ _ _ _ _ _ hn hn' hC hD g g' rfl rfl
  · cases ho' : on'
    · subst ho ho'; exact absInI_tf _ _ _ _ _ _ _ _ _ _ _ _ _ _ _ _ _ _ _ _ _ hn hn' hC hD g g' rfl rfl
    · subst ho ho'; exact absInI_tt _ _ _ _ _ _ _ _ _ _ _ _ _ _ _ _ _ _ _ _ _ hn hn' hC hD g g' rfl rfl
end Go.Proofs.Ytiehokibfdaleaa
