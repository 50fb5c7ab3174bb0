/- The model's AbsJoin, every way. -/
import Derived.Test.YtiehokibfdaleaaAbsJoinT
namespace Go.Proofs.Ytiehokibfdaleaa
open Go.ChangeShapes Go.WideShapes Go.ChangeAt Go.RowKit
set_option linter.unusedVariables false
theorem StIs.congr {B : Nat} {on : Bool} {n : Nat} {lo hi lo2 hi2 : Nat → Int} {c d : Int} {v : Value} {W : World} (h : StIs B on n lo hi c d v W) (h1 : ∀ k, k < n → lo k = lo2 k) (h2 : ∀ k, k < n → hi k = hi2 k) : StIs B on n lo2 hi2 c d v W := by
  obtain ⟨a, g, cap, e, hB⟩ := h
  exact ⟨a, g, cap, e, hB.own, hB.free, hB.at_.at_, hB.at_.lt, fun k hk => (hB.at_.lo k hk).trans (by rw [h1 k hk]), fun k hk => (hB.at_.hi k hk).trans (by rw [h2 k hk])⟩
theorem copyX (on : Bool) (a : Option Addr) (b off n cap : Nat) (lo hi : Nat → Int) (c d : Int) (w : World) (g : absOk on n lo hi c d = true) (hC : BndsAt a b off n lo hi w) :
    Calls Try.prog 26 #[.agg #[.bool on, .slice a n cap, .int .i64 c, .int .i64 d]] w fun e w' => ∃ v, e = .returned v ∧ StIs w.heap.size on n lo hi c d v w' ∧ Below w.heap.size w w' := by
  cases on
  · obtain ⟨rfl, rfl, rfl⟩ : n = 0 ∧ c = 0 ∧ d = 0 := by simp [absOk] at g; exact g
    refine (copyF a 0 cap 0 0 w).mono ?_
    rintro e w' ⟨rfl, hb⟩
    exact ⟨_, rfl, ⟨none, 0, 0, rfl, BndsIs.nil0 _ _ _ _⟩, hb⟩
  · obtain rfl : n = 4 := by simp [absOk] at g; exact g.1
    obtain rfl := hC.at_ (by omega)
    exact copyT b off cap lo hi c d w hC
set_option maxRecDepth 10000 in
set_option maxHeartbeats 16000000 in
theorem absJoinS_0 (on : Bool) (a : Option Addr) (b off n cap : Nat) (lo hi : Nat → Int) (c d : Int) (on' : Bool) (a' : Option Addr) (b' off' n' cap' : Nat) (lo' hi' : Nat → Int) (c' d' : Int) (w : World) (hC : BndsAt a b off n lo hi w) (hD : BndsAt a' b' off' n' lo' hi' w) (g : absOk on n lo hi c d = false) :
    Calls Try.prog 9 #[.agg #[.bool on, .slice a n cap, .int .i64 c, .int .i64 d], .agg #[.bool on', .slice a' n' cap', .int .i64 c', .int .i64 d']] w fun e w' => ∃ v, e = .returned v ∧ StIs w.heap.size false 0 (fun _ => 0) (fun _ => 0) 0 0 v w' ∧ Below w.heap.size w w' := by
  have H : HeldL w ((w.heap.size + 1 + 1, [Value.bool false, .slice none 0 0, .int .i64 0, .int .i64 0]) :: [(w.heap.size + 1, [Value.bool on', .slice a' n' cap', .int .i64 c', .int .i64 d']), (w.heap.size, [Value.bool on, .slice a n cap, .int .i64 c, .int .i64 d])]) (((w.alloc (.cells #[.bool on, .slice a n cap, .int .i64 c, .int .i64 d] 27)).alloc (.cells #[.bool on', .slice a' n' cap', .int .i64 c', .int .i64 d'] 27)).alloc (.cells #[.bool false, .slice none 0 0, .int .i64 0, .int .i64 0] 27)) := by
    have e1 : w.heap.size + 1 = (w.alloc (.cells #[.bool on, .slice a n cap, .int .i64 c, .int .i64 d] 27)).heap.size := by simp
    have e2 : w.heap.size + 1 + 1 = ((w.alloc (.cells #[.bool on, .slice a n cap, .int .i64 c, .int .i64 d] 27)).alloc (.cells #[.bool on', .slice a' n' cap', .int .i64 c', .int .i64 d'] 27)).heap.size := by simp
    rw [e2, e1]
    exact HeldL.newL (vs := [Value.bool false, .slice none 0 0, .int .i64 0, .int .i64 0]) (HeldL.newL (vs := [Value.bool on', .slice a' n' cap', .int .i64 c', .int .i64 d']) (HeldL.newL (vs := [Value.bool on, .slice a n cap, .int .i64 c, .int .i64 d]) (HeldL.nil w)))
  obtain ⟨Lr, hLr⟩ : ∃ L, L = [(w.heap.size + 1, [Value.bool on', .slice a' n' cap', .int .i64 c', .int .i64 d']), (w.heap.size, [Value.bool on, .slice a n cap, .int .i64 c, .int .i64 d])] := ⟨_, rfl⟩
  have ne0 : ∀ e ∈ Lr, e.1 ≠ w.heap.size + 1 + 1 := by rw [hLr]; intro e he; simp at he; rcases he with rfl | rfl <;> dsimp only <;> omega
  have mA : (w.heap.size, [Value.bool on, .slice a n cap, .int .i64 c, .int .i64 d]) ∈ Lr := by rw [hLr]; simp
  have mB : (w.heap.size + 1, [Value.bool on', .slice a' n' cap', .int .i64 c', .int .i64 d']) ∈ Lr := by rw [hLr]; simp
  rw [← hLr] at H
  clear hLr
  go_enter Try.func9, Try.ntmps9
  go_wp2_with fail
  refine (absOkS _ _ _ _ _ _ _ _ _ _ _ (hC.next H.below)).mono ?_
  rintro e w1 ⟨rfl, hb⟩
  rw [g]
  replace H := H.next hb
  clear hb
  have z0 := H.cell List.mem_cons_self (i := 0) rfl
  have z1 := H.cell List.mem_cons_self (i := 1) rfl
  have z2 := H.cell List.mem_cons_self (i := 2) rfl
  have z3 := H.cell List.mem_cons_self (i := 3) rfl
  have fr := H.free _ List.mem_cons_self
  dsimp only at z0 z1 z2 z3 fr
  have hH' : HeldL w ((w.heap.size + 1 + 1, [Value.bool false, .slice none 0 0, .int .i64 0, .int .i64 0]) :: Lr) (setAll (w.heap.size + 1 + 1) 0 [.bool false, .slice none 0 0, .int .i64 0, .int .i64 0] w1) := by
    have h := HeldL.putCells (by omega) ne0 [.bool false, .slice none 0 0, .int .i64 0, .int .i64 0] 0 [Value.bool false, .slice none 0 0, .int .i64 0, .int .i64 0] w1 H (by simp)
    simp only [putL, List.set_cons_succ, List.set_cons_zero] at h
    exact h
  clear H hC hD
  go_wp2_with fail
  show bodyPost _ _ _ _ _ (setAll (w.heap.size + 1 + 1) 0 [.bool false, .slice none 0 0, .int .i64 0, .int .i64 0] w1)
  obtain ⟨W, hW⟩ : ∃ W, W = setAll (w.heap.size + 1 + 1) 0 [.bool false, .slice none 0 0, .int .i64 0, .int .i64 0] w1 := ⟨_, rfl⟩
  rw [← hW] at hH' ⊢
  clear hW z0 z1 z2 z3 fr
  have r0 := hH'.cell List.mem_cons_self (i := 0) rfl
  have r1 := hH'.cell List.mem_cons_self (i := 1) rfl
  have r2 := hH'.cell List.mem_cons_self (i := 2) rfl
  have r3 := hH'.cell List.mem_cons_self (i := 3) rfl
  dsimp only at r0 r1 r2 r3
  refine bodyPost_ret (v := .agg #[.bool false, .slice none 0 0, .int .i64 0, .int .i64 0]) (by simp [results, Try.results9, go_sem, r0, r1, r2, r3]) rfl ⟨_, rfl, ⟨none, 0, 0, rfl, BndsIs.nil0 _ _ _ _⟩, hH'.below⟩
set_option maxRecDepth 10000 in
set_option maxHeartbeats 16000000 in
theorem absJoinS_1 (on : Bool) (a : Option Addr) (b off n cap : Nat) (lo hi : Nat → Int) (c d : Int) (on' : Bool) (a' : Option Addr) (b' off' n' cap' : Nat) (lo' hi' : Nat → Int) (c' d' : Int) (w : World) (hC : BndsAt a b off n lo hi w) (hD : BndsAt a' b' off' n' lo' hi' w) (g : absOk on n lo hi c d = true) (g' : absOk on' n' lo' hi' c' d' = false) :
    Calls Try.prog 9 #[.agg #[.bool on, .slice a n cap, .int .i64 c, .int .i64 d], .agg #[.bool on', .slice a' n' cap', .int .i64 c', .int .i64 d']] w fun e w' => ∃ v, e = .returned v ∧ StIs w.heap.size false 0 (fun _ => 0) (fun _ => 0) 0 0 v w' ∧ Below w.heap.size w w' := by
  have H : HeldL w ((w.heap.size + 1 + 1, [Value.bool false, .slice none 0 0, .int .i64 0, .int .i64 0]) :: [(w.heap.size + 1, [Value.bool on', .slice a' n' cap', .int .i64 c', .int .i64 d']), (w.heap.size, [Value.bool on, .slice a n cap, .int .i64 c, .int .i64 d])]) (((w.alloc (.cells #[.bool on, .slice a n cap, .int .i64 c, .int .i64 d] 27)).alloc (.cells #[.bool on', .slice a' n' cap', .int .i64 c', .int .i64 d'] 27)).alloc (.cells #[.bool false, .slice none 0 0, .int .i64 0, .int .i64 0] 27)) := by
    have e1 : w.heap.size + 1 = (w.alloc (.cells #[.bool on, .slice a n cap, .int .i64 c, .int .i64 d] 27)).heap.size := by simp
    have e2 : w.heap.size + 1 + 1 = ((w.alloc (.cells #[.bool on, .slice a n cap, .int .i64 c, .int .i64 d] 27)).alloc (.cells #[.bool on', .slice a' n' cap', .int .i64 c', .int .i64 d'] 27)).heap.size := by simp
    rw [e2, e1]
    exact HeldL.newL (vs := [Value.bool false, .slice none 0 0, .int .i64 0, .int .i64 0]) (HeldL.newL (vs := [Value.bool on', .slice a' n' cap', .int .i64 c', .int .i64 d']) (HeldL.newL (vs := [Value.bool on, .slice a n cap, .int .i64 c, .int .i64 d]) (HeldL.nil w)))
  obtain ⟨Lr, hLr⟩ : ∃ L, L = [(w.heap.size + 1, [Value.bool on', .slice a' n' cap', .int .i64 c', .int .i64 d']), (w.heap.size, [Value.bool on, .slice a n cap, .int .i64 c, .int .i64 d])] := ⟨_, rfl⟩
  have ne0 : ∀ e ∈ Lr, e.1 ≠ w.heap.size + 1 + 1 := by rw [hLr]; intro e he; simp at he; rcases he with rfl | rfl <;> dsimp only <;> omega
  have mA : (w.heap.size, [Value.bool on, .slice a n cap, .int .i64 c, .int .i64 d]) ∈ Lr := by rw [hLr]; simp
  have mB : (w.heap.size + 1, [Value.bool on', .slice a' n' cap', .int .i64 c', .int .i64 d']) ∈ Lr := by rw [hLr]; simp
  rw [← hLr] at H
  clear hLr
  go_enter Try.func9, Try.ntmps9
  go_wp2_with fail
  refine (absOkS _ _ _ _ _ _ _ _ _ _ _ (hC.next H.below)).mono ?_
  rintro e w1 ⟨rfl, hb⟩
  rw [g]
  replace H := H.next hb
  clear hb
  have y0 := H.cell (List.mem_cons_of_mem _ mB) (i := 0) rfl
  have y1 := H.cell (List.mem_cons_of_mem _ mB) (i := 1) rfl
  have y2 := H.cell (List.mem_cons_of_mem _ mB) (i := 2) rfl
  have y3 := H.cell (List.mem_cons_of_mem _ mB) (i := 3) rfl
  dsimp only at y0 y1 y2 y3
  go_wp2_with fail
  refine (absOkS _ _ _ _ _ _ _ _ _ _ _ (hD.next H.below)).mono ?_
  rintro e w2 ⟨rfl, hb⟩
  rw [g']
  replace H := H.next hb
  clear hb y0 y1 y2 y3
  have z0 := H.cell List.mem_cons_self (i := 0) rfl
  have z1 := H.cell List.mem_cons_self (i := 1) rfl
  have z2 := H.cell List.mem_cons_self (i := 2) rfl
  have z3 := H.cell List.mem_cons_self (i := 3) rfl
  have fr := H.free _ List.mem_cons_self
  dsimp only at z0 z1 z2 z3 fr
  have hH' : HeldL w ((w.heap.size + 1 + 1, [Value.bool false, .slice none 0 0, .int .i64 0, .int .i64 0]) :: Lr) (setAll (w.heap.size + 1 + 1) 0 [.bool false, .slice none 0 0, .int .i64 0, .int .i64 0] w2) := by
    have h := HeldL.putCells (by omega) ne0 [.bool false, .slice none 0 0, .int .i64 0, .int .i64 0] 0 [Value.bool false, .slice none 0 0, .int .i64 0, .int .i64 0] w2 H (by simp)
    simp only [putL, List.set_cons_succ, List.set_cons_zero] at h
    exact h
  clear H hC hD
  go_wp2_with fail
  show bodyPost _ _ _ _ _ (setAll (w.heap.size + 1 + 1) 0 [.bool false, .slice none 0 0, .int .i64 0, .int .i64 0] w2)
  obtain ⟨W, hW⟩ : ∃ W, W = setAll (w.heap.size + 1 + 1) 0 [.bool false, .slice none 0 0, .int .i64 0, .int .i64 0] w2 := ⟨_, rfl⟩
  rw [← hW] at hH' ⊢
  clear hW z0 z1 z2 z3 fr
  have r0 := hH'.cell List.mem_cons_self (i := 0) rfl
  have r1 := hH'.cell List.mem_cons_self (i := 1) rfl
  have r2 := hH'.cell List.mem_cons_self (i := 2) rfl
  have r3 := hH'.cell List.mem_cons_self (i := 3) rfl
  dsimp only at r0 r1 r2 r3
  refine bodyPost_ret (v := .agg #[.bool false, .slice none 0 0, .int .i64 0, .int .i64 0]) (by simp [results, Try.results9, go_sem, r0, r1, r2, r3]) rfl ⟨_, rfl, ⟨none, 0, 0, rfl, BndsIs.nil0 _ _ _ _⟩, hH'.below⟩
set_option maxRecDepth 10000 in
set_option maxHeartbeats 16000000 in
theorem absJoinS_2 (a : Option Addr) (b off n cap : Nat) (lo hi : Nat → Int) (c d : Int) (on' : Bool) (a' : Option Addr) (b' off' n' cap' : Nat) (lo' hi' : Nat → Int) (c' d' : Int) (w : World) (hC : BndsAt a b off n lo hi w) (hD : BndsAt a' b' off' n' lo' hi' w) (g : absOk false n lo hi c d = true) (g' : absOk on' n' lo' hi' c' d' = true) :
    Calls Try.prog 9 #[.agg #[.bool false, .slice a n cap, .int .i64 c, .int .i64 d], .agg #[.bool on', .slice a' n' cap', .int .i64 c', .int .i64 d']] w fun e w' => ∃ v, e = .returned v ∧ StIs w.heap.size on' n' lo' hi' c' d' v w' ∧ Below w.heap.size w w' := by
  have H : HeldL w ((w.heap.size + 1 + 1, [Value.bool false, .slice none 0 0, .int .i64 0, .int .i64 0]) :: [(w.heap.size + 1, [Value.bool on', .slice a' n' cap', .int .i64 c', .int .i64 d']), (w.heap.size, [Value.bool false, .slice a n cap, .int .i64 c, .int .i64 d])]) (((w.alloc (.cells #[.bool false, .slice a n cap, .int .i64 c, .int .i64 d] 27)).alloc (.cells #[.bool on', .slice a' n' cap', .int .i64 c', .int .i64 d'] 27)).alloc (.cells #[.bool false, .slice none 0 0, .int .i64 0, .int .i64 0] 27)) := by
    have e1 : w.heap.size + 1 = (w.alloc (.cells #[.bool false, .slice a n cap, .int .i64 c, .int .i64 d] 27)).heap.size := by simp
    have e2 : w.heap.size + 1 + 1 = ((w.alloc (.cells #[.bool false, .slice a n cap, .int .i64 c, .int .i64 d] 27)).alloc (.cells #[.bool on', .slice a' n' cap', .int .i64 c', .int .i64 d'] 27)).heap.size := by simp
    rw [e2, e1]
    exact HeldL.newL (vs := [Value.bool false, .slice none 0 0, .int .i64 0, .int .i64 0]) (HeldL.newL (vs := [Value.bool on', .slice a' n' cap', .int .i64 c', .int .i64 d']) (HeldL.newL (vs := [Value.bool false, .slice a n cap, .int .i64 c, .int .i64 d]) (HeldL.nil w)))
  obtain ⟨Lr, hLr⟩ : ∃ L, L = [(w.heap.size + 1, [Value.bool on', .slice a' n' cap', .int .i64 c', .int .i64 d']), (w.heap.size, [Value.bool false, .slice a n cap, .int .i64 c, .int .i64 d])] := ⟨_, rfl⟩
  have ne0 : ∀ e ∈ Lr, e.1 ≠ w.heap.size + 1 + 1 := by rw [hLr]; intro e he; simp at he; rcases he with rfl | rfl <;> dsimp only <;> omega
  have mA : (w.heap.size, [Value.bool false, .slice a n cap, .int .i64 c, .int .i64 d]) ∈ Lr := by rw [hLr]; simp
  have mB : (w.heap.size + 1, [Value.bool on', .slice a' n' cap', .int .i64 c', .int .i64 d']) ∈ Lr := by rw [hLr]; simp
  rw [← hLr] at H
  clear hLr
  go_enter Try.func9, Try.ntmps9
  go_wp2_with fail
  refine (absOkS _ _ _ _ _ _ _ _ _ _ _ (hC.next H.below)).mono ?_
  rintro e w1 ⟨rfl, hb⟩
  rw [g]
  replace H := H.next hb
  clear hb
  have y0 := H.cell (List.mem_cons_of_mem _ mB) (i := 0) rfl
  have y1 := H.cell (List.mem_cons_of_mem _ mB) (i := 1) rfl
  have y2 := H.cell (List.mem_cons_of_mem _ mB) (i := 2) rfl
  have y3 := H.cell (List.mem_cons_of_mem _ mB) (i := 3) rfl
  dsimp only at y0 y1 y2 y3
  go_wp2_with fail
  refine (absOkS _ _ _ _ _ _ _ _ _ _ _ (hD.next H.below)).mono ?_
  rintro e w2 ⟨rfl, hb⟩
  rw [g']
  replace H := H.next hb
  clear hb y0 y1 y2 y3
  have x0 := H.cell (List.mem_cons_of_mem _ mA) (i := 0) rfl
  have x1 := H.cell (List.mem_cons_of_mem _ mA) (i := 1) rfl
  have x2 := H.cell (List.mem_cons_of_mem _ mA) (i := 2) rfl
  have x3 := H.cell (List.mem_cons_of_mem _ mA) (i := 3) rfl
  dsimp only at x0 x1 x2 x3
  have y0 := H.cell (List.mem_cons_of_mem _ mB) (i := 0) rfl
  have y1 := H.cell (List.mem_cons_of_mem _ mB) (i := 1) rfl
  have y2 := H.cell (List.mem_cons_of_mem _ mB) (i := 2) rfl
  have y3 := H.cell (List.mem_cons_of_mem _ mB) (i := 3) rfl
  dsimp only at y0 y1 y2 y3
  go_wp2_with fail
  refine (copyX _ _ _ _ _ _ _ _ _ _ _ g' (hD.next H.below)).mono ?_
  rintro e w3 ⟨v, rfl, ⟨a2, g2, cap2, rfl, hB⟩, hb⟩
  have hz := H.size List.mem_cons_self
  dsimp only at hz
  replace H := H.next hb
  clear hb x0 x1 x2 x3 y0 y1 y2 y3
  have B1 := (hB.base (C := w.heap.size + 1 + 1 + 1) hz).set (G := w.heap.size + 1 + 1) (o := 0) (vs := [.bool on', .slice a2 n' cap2, .int .i64 c', .int .i64 d']) (by omega)
  clear hB hz
  have z0 := H.cell List.mem_cons_self (i := 0) rfl
  have z1 := H.cell List.mem_cons_self (i := 1) rfl
  have z2 := H.cell List.mem_cons_self (i := 2) rfl
  have z3 := H.cell List.mem_cons_self (i := 3) rfl
  have fr := H.free _ List.mem_cons_self
  dsimp only at z0 z1 z2 z3 fr
  have hH' : HeldL w ((w.heap.size + 1 + 1, [Value.bool on', .slice a2 n' cap2, .int .i64 c', .int .i64 d']) :: Lr) (setAll (w.heap.size + 1 + 1) 0 [.bool on', .slice a2 n' cap2, .int .i64 c', .int .i64 d'] w3) := by
    have h := HeldL.putCells (by omega) ne0 [.bool on', .slice a2 n' cap2, .int .i64 c', .int .i64 d'] 0 [Value.bool false, .slice none 0 0, .int .i64 0, .int .i64 0] w3 H (by simp)
    simp only [putL, List.set_cons_succ, List.set_cons_zero] at h
    exact h
  clear H hC hD
  go_wp2_with fail
  show bodyPost _ _ _ _ _ (setAll (w.heap.size + 1 + 1) 0 [.bool on', .slice a2 n' cap2, .int .i64 c', .int .i64 d'] w3)
  obtain ⟨W, hW⟩ : ∃ W, W = setAll (w.heap.size + 1 + 1) 0 [.bool on', .slice a2 n' cap2, .int .i64 c', .int .i64 d'] w3 := ⟨_, rfl⟩
  rw [← hW] at hH' B1 ⊢
  clear hW z0 z1 z2 z3 fr
  have r0 := hH'.cell List.mem_cons_self (i := 0) rfl
  have r1 := hH'.cell List.mem_cons_self (i := 1) rfl
  have r2 := hH'.cell List.mem_cons_self (i := 2) rfl
  have r3 := hH'.cell List.mem_cons_self (i := 3) rfl
  dsimp only at r0 r1 r2 r3
  refine bodyPost_ret (v := .agg #[.bool on', .slice a2 n' cap2, .int .i64 c', .int .i64 d']) (by simp [results, Try.results9, go_sem, r0, r1, r2, r3]) rfl ⟨_, rfl, ⟨a2, g2, cap2, rfl, B1.base (by omega)⟩, hH'.below⟩
set_option maxRecDepth 10000 in
set_option maxHeartbeats 16000000 in
theorem absJoinS_3 (a : Option Addr) (b off n cap : Nat) (lo hi : Nat → Int) (c d : Int) (a' : Option Addr) (b' off' n' cap' : Nat) (lo' hi' : Nat → Int) (c' d' : Int) (w : World) (hC : BndsAt a b off n lo hi w) (hD : BndsAt a' b' off' n' lo' hi' w) (g : absOk true n lo hi c d = true) (g' : absOk false n' lo' hi' c' d' = true) :
    Calls Try.prog 9 #[.agg #[.bool true, .slice a n cap, .int .i64 c, .int .i64 d], .agg #[.bool false, .slice a' n' cap', .int .i64 c', .int .i64 d']] w fun e w' => ∃ v, e = .returned v ∧ StIs w.heap.size true n lo hi c d v w' ∧ Below w.heap.size w w' := by
  have H : HeldL w ((w.heap.size + 1 + 1, [Value.bool false, .slice none 0 0, .int .i64 0, .int .i64 0]) :: [(w.heap.size + 1, [Value.bool false, .slice a' n' cap', .int .i64 c', .int .i64 d']), (w.heap.size, [Value.bool true, .slice a n cap, .int .i64 c, .int .i64 d])]) (((w.alloc (.cells #[.bool true, .slice a n cap, .int .i64 c, .int .i64 d] 27)).alloc (.cells #[.bool false, .slice a' n' cap', .int .i64 c', .int .i64 d'] 27)).alloc (.cells #[.bool false, .slice none 0 0, .int .i64 0, .int .i64 0] 27)) := by
    have e1 : w.heap.size + 1 = (w.alloc (.cells #[.bool true, .slice a n cap, .int .i64 c, .int .i64 d] 27)).heap.size := by simp
    have e2 : w.heap.size + 1 + 1 = ((w.alloc (.cells #[.bool true, .slice a n cap, .int .i64 c, .int .i64 d] 27)).alloc (.cells #[.bool false, .slice a' n' cap', .int .i64 c', .int .i64 d'] 27)).heap.size := by simp
    rw [e2, e1]
    exact HeldL.newL (vs := [Value.bool false, .slice none 0 0, .int .i64 0, .int .i64 0]) (HeldL.newL (vs := [Value.bool false, .slice a' n' cap', .int .i64 c', .int .i64 d']) (HeldL.newL (vs := [Value.bool true, .slice a n cap, .int .i64 c, .int .i64 d]) (HeldL.nil w)))
  obtain ⟨Lr, hLr⟩ : ∃ L, L = [(w.heap.size + 1, [Value.bool false, .slice a' n' cap', .int .i64 c', .int .i64 d']), (w.heap.size, [Value.bool true, .slice a n cap, .int .i64 c, .int .i64 d])] := ⟨_, rfl⟩
  have ne0 : ∀ e ∈ Lr, e.1 ≠ w.heap.size + 1 + 1 := by rw [hLr]; intro e he; simp at he; rcases he with rfl | rfl <;> dsimp only <;> omega
  have mA : (w.heap.size, [Value.bool true, .slice a n cap, .int .i64 c, .int .i64 d]) ∈ Lr := by rw [hLr]; simp
  have mB : (w.heap.size + 1, [Value.bool false, .slice a' n' cap', .int .i64 c', .int .i64 d']) ∈ Lr := by rw [hLr]; simp
  rw [← hLr] at H
  clear hLr
  go_enter Try.func9, Try.ntmps9
  go_wp2_with fail
  refine (absOkS _ _ _ _ _ _ _ _ _ _ _ (hC.next H.below)).mono ?_
  rintro e w1 ⟨rfl, hb⟩
  rw [g]
  replace H := H.next hb
  clear hb
  have y0 := H.cell (List.mem_cons_of_mem _ mB) (i := 0) rfl
  have y1 := H.cell (List.mem_cons_of_mem _ mB) (i := 1) rfl
  have y2 := H.cell (List.mem_cons_of_mem _ mB) (i := 2) rfl
  have y3 := H.cell (List.mem_cons_of_mem _ mB) (i := 3) rfl
  dsimp only at y0 y1 y2 y3
  go_wp2_with fail
  refine (absOkS _ _ _ _ _ _ _ _ _ _ _ (hD.next H.below)).mono ?_
  rintro e w2 ⟨rfl, hb⟩
  rw [g']
  replace H := H.next hb
  clear hb y0 y1 y2 y3
  have x0 := H.cell (List.mem_cons_of_mem _ mA) (i := 0) rfl
  have x1 := H.cell (List.mem_cons_of_mem _ mA) (i := 1) rfl
  have x2 := H.cell (List.mem_cons_of_mem _ mA) (i := 2) rfl
  have x3 := H.cell (List.mem_cons_of_mem _ mA) (i := 3) rfl
  dsimp only at x0 x1 x2 x3
  have y0 := H.cell (List.mem_cons_of_mem _ mB) (i := 0) rfl
  have y1 := H.cell (List.mem_cons_of_mem _ mB) (i := 1) rfl
  have y2 := H.cell (List.mem_cons_of_mem _ mB) (i := 2) rfl
  have y3 := H.cell (List.mem_cons_of_mem _ mB) (i := 3) rfl
  dsimp only at y0 y1 y2 y3
  go_wp2_with fail
  refine (copyX _ _ _ _ _ _ _ _ _ _ _ g (hC.next H.below)).mono ?_
  rintro e w3 ⟨v, rfl, ⟨a2, g2, cap2, rfl, hB⟩, hb⟩
  have hz := H.size List.mem_cons_self
  dsimp only at hz
  replace H := H.next hb
  clear hb x0 x1 x2 x3 y0 y1 y2 y3
  have B1 := (hB.base (C := w.heap.size + 1 + 1 + 1) hz).set (G := w.heap.size + 1 + 1) (o := 0) (vs := [.bool true, .slice a2 n cap2, .int .i64 c, .int .i64 d]) (by omega)
  clear hB hz
  have z0 := H.cell List.mem_cons_self (i := 0) rfl
  have z1 := H.cell List.mem_cons_self (i := 1) rfl
  have z2 := H.cell List.mem_cons_self (i := 2) rfl
  have z3 := H.cell List.mem_cons_self (i := 3) rfl
  have fr := H.free _ List.mem_cons_self
  dsimp only at z0 z1 z2 z3 fr
  have hH' : HeldL w ((w.heap.size + 1 + 1, [Value.bool true, .slice a2 n cap2, .int .i64 c, .int .i64 d]) :: Lr) (setAll (w.heap.size + 1 + 1) 0 [.bool true, .slice a2 n cap2, .int .i64 c, .int .i64 d] w3) := by
    have h := HeldL.putCells (by omega) ne0 [.bool true, .slice a2 n cap2, .int .i64 c, .int .i64 d] 0 [Value.bool false, .slice none 0 0, .int .i64 0, .int .i64 0] w3 H (by simp)
    simp only [putL, List.set_cons_succ, List.set_cons_zero] at h
    exact h
  clear H hC hD
  go_wp2_with fail
  show bodyPost _ _ _ _ _ (setAll (w.heap.size + 1 + 1) 0 [.bool true, .slice a2 n cap2, .int .i64 c, .int .i64 d] w3)
  obtain ⟨W, hW⟩ : ∃ W, W = setAll (w.heap.size + 1 + 1) 0 [.bool true, .slice a2 n cap2, .int .i64 c, .int .i64 d] w3 := ⟨_, rfl⟩
  rw [← hW] at hH' B1 ⊢
  clear hW z0 z1 z2 z3 fr
  have r0 := hH'.cell List.mem_cons_self (i := 0) rfl
  have r1 := hH'.cell List.mem_cons_self (i := 1) rfl
  have r2 := hH'.cell List.mem_cons_self (i := 2) rfl
  have r3 := hH'.cell List.mem_cons_self (i := 3) rfl
  dsimp only at r0 r1 r2 r3
  refine bodyPost_ret (v := .agg #[.bool true, .slice a2 n cap2, .int .i64 c, .int .i64 d]) (by simp [results, Try.results9, go_sem, r0, r1, r2, r3]) rfl ⟨_, rfl, ⟨a2, g2, cap2, rfl, B1.base (by omega)⟩, hH'.below⟩
theorem absJoinS (on : Bool) (a : Option Addr) (b off n cap : Nat) (lo hi : Nat → Int) (c d : Int) (on' : Bool) (a' : Option Addr) (b' off' n' cap' : Nat) (lo' hi' : Nat → Int) (c' d' : Int) (w : World) (hC : BndsAt a b off n lo hi w) (hD : BndsAt a' b' off' n' lo' hi' w) :
    Calls Try.prog 9 #[.agg #[.bool on, .slice a n cap, .int .i64 c, .int .i64 d], .agg #[.bool on', .slice a' n' cap', .int .i64 c', .int .i64 d']] w fun e w' => ∃ v, e = .returned v ∧ StIs w.heap.size ((absOk on n lo hi c d && absOk on' n' lo' hi' c' d') && (on || on')) (onN ((absOk on n lo hi c d && absOk on' n' lo' hi' c' d') && (on || on'))) (jF on on' (arL on lo c) (arL on' lo' c') (fun k => joinLo (arL on lo c k) (arL on hi d k) (arL on' lo' c' k) (arL on' hi' d' k))) (jF on on' (arL on hi d) (arL on' hi' d') (fun k => joinHi (arL on lo c k) (arL on hi d k) (arL on' lo' c' k) (arL on' hi' d' k))) (onF ((absOk on n lo hi c d && absOk on' n' lo' hi' c' d') && (on || on')) ((jF on on' (arL on lo c) (arL on' lo' c') (fun k => joinLo (arL on lo c k) (arL on hi d k) (arL on' lo' c' k) (arL on' hi' d' k))) 4)) (onF ((absOk on n lo hi c d && absOk on' n' lo' hi' c' d') && (on || on')) ((jF on on' (arL on hi d) (arL on' hi' d') (fun k => joinHi (arL on lo c k) (arL on hi d k) (arL on' lo' c' k) (arL on' hi' d' k))) 4)) v w' ∧ Below w.heap.size w w' := by
  cases g : absOk on n lo hi c d
  · refine (absJoinS_0 _ _ _ _ _ _ _ _ _ _ _ _ _ _ _ _ _ _ _ _ _ hC hD g).mono ?_
    rintro e w' ⟨v, rfl, hv, hb⟩
    exact ⟨_, rfl, hv.congr (fun k hk => by omega) (fun k hk => by omega), hb⟩
  cases g' : absOk on' n' lo' hi' c' d'
  · refine (absJoinS_1 _ _ _ _ _ _ _ _ _ _ _ _ _ _ _ _ _ _ _ _ _ hC hD g g').mono ?_
    rintro e w' ⟨v, rfl, hv, hb⟩
    exact ⟨_, rfl, hv.congr (fun k hk => by omega) (fun k hk => by omega), hb⟩
  simp only [Bool.and_self, Bool.true_and]
  cases on
  · refine (absJoinS_2 _ _ _ _ _ _ _ _ _ _ _ _ _ _ _ _ _ _ _ _ hC hD g g').mono ?_
    rintro e w' ⟨v, rfl, hv, hb⟩
    cases on'
    · obtain ⟨rfl, rfl, rfl⟩ : n' = 0 ∧ c' = 0 ∧ d' = 0 := by simp [absOk] at g'; exact g'
      exact ⟨_, rfl, hv.congr (fun k hk => by omega) (fun k hk => by omega), hb⟩
    · obtain rfl : n' = 4 := by simp [absOk] at g'; exact g'.1
      refine ⟨_, rfl, hv.congr (lo2 := arL true lo' c') (hi2 := arL true hi' d') (fun k hk => ?_) (fun k hk => ?_), hb⟩ <;> simp [arL, hk]
  · cases on'
    · obtain rfl : n = 4 := by simp [absOk] at g; exact g.1
      refine (absJoinS_3 _ _ _ _ _ _ _ _ _ _ _ _ _ _ _ _ _ _ _ hC hD g g').mono ?_
      rintro e w' ⟨v, rfl, hv, hb⟩
      refine ⟨_, rfl, hv.congr (lo2 := arL true lo c) (hi2 := arL true hi d) (fun k hk => ?_) (fun k hk => ?_), hb⟩ <;> simp [arL, hk]
    · obtain rfl : n = 4 := by simp [absOk] at g; exact g.1
      obtain rfl : n' = 4 := by simp [absOk] at g'; exact g'.1
      obtain rfl := hC.at_ (by omega)
      obtain rfl := hD.at_ (by omega)
      refine (absJoinS_t _ _ _ _ _ _ _ _ _ _ _ _ _ _ _ _ _ _ _ hC hD g g' (fun k => rfl) (fun k => rfl) rfl rfl).mono ?_
      rintro e w' ⟨v, rfl, hv, hb⟩
      refine ⟨_, rfl, hv.congr (fun k hk => ?_) (fun k hk => ?_), hb⟩ <;> simp [jF, arL, hk]
end Go.Proofs.Ytiehokibfdaleaa
