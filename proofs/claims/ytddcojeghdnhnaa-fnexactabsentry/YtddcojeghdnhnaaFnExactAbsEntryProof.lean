/- Whatever procedure is handed in, the law FnExactAbsEntry returns true: the program's AbsEntry answers as the model's, its state is its own, behind another call too, and it turns nothing of its argument. No condition. Of a procedure of more than 1048576 steps the law itself answers true. -/
import Derived.Test.YtddcojeghdnhnaaOpenAbs
import Derived.Test.YtddcojeghdnhnaaOpenPrg
import Derived.Test.YtddcojeghdnhnaaAbsEntry
import Derived.Test.YtddcojeghdnhnaaLawSt
import Derived.Deep.RegionHeld3
import Derived.Deep.DeepCutAuto
import Derived.WalkKit
import Derived.ProofKit
import Derived.OpenShut
import Derived.ShutString
import Derived.ChangeOld
import Derived.Below
namespace Go.Proofs.Ytddcojeghdnhnaa.fnExactAbsEntry
open Go.ChangeShapes Go.WideShapes Go.ChangeAt Go.RowKit
open Go.ChangeMaps (open_string shut_string)
set_option linter.unusedVariables false

theorem own : ownKnob Try.prog.godebug = none := by kernel_rfl
theorem laidOut : laidOutB Try.prog = true := by kernel_rfl

theorem free_next {W W' : World} {g : Nat} (hb : Below W.heap.size W W') (hl : g < W.heap.size) (hf : ∀ i, W.frozen? ⟨g, i, none⟩ = false) : ∀ i, W'.frozen? ⟨g, i, none⟩ = false := fun i => (hb.frozen (p := ⟨g, i, none⟩) hl).trans (hf i)
theorem HeldL.keptAll {w : World} {L : List (Nat × List Value)} {W W' : World} (h : HeldL w L W) (hb : Below w.heap.size W W') (t : W.heap.size ≤ W'.heap.size ∧ ∀ p : Addr, p.block < W.heap.size → W'.cell? p = W.cell? p ∧ W'.frozen? p = W.frozen? p) : HeldL w L W' :=
  ⟨h.below.trans hb, fun e he => by
    obtain ⟨h1, h2, h3⟩ := h.cells e he
    exact ⟨h1, Nat.lt_of_lt_of_le h2 t.1, fun i v hv => (t.2 ⟨e.1, i, none⟩ h2).1.trans (h3 i v hv)⟩,
    fun e he i => (t.2 ⟨e.1, i, none⟩ (h.cells e he).2.1).2.trans (h.free e he i)⟩

set_option maxRecDepth 10000 in
set_option maxHeartbeats 40000000 in
theorem walk (lo0 hi0 : Int) (a0 : Option Addr) (b0 off0 n0 cap0 : Nat) (c0 : Nat → Nat → Int) (hn0 : n0 ≤ maxLen) (w : World) (r0 : CodeAt a0 b0 off0 n0 c0 w) :
    Calls Try.prog 4 #[.agg #[.int .i64 lo0, .int .i64 hi0, .slice a0 n0 cap0]] w fun e w' => e = .returned (.bool true) ∧ Below w.heap.size w w' := by
  have H : HeldL w [(w.heap.size, [Value.int .i64 lo0, .int .i64 hi0, .slice a0 n0 cap0])] (w.alloc (.cells #[.int .i64 lo0, .int .i64 hi0, .slice a0 n0 cap0] 38)) := HeldL.newL (vs := [Value.int .i64 lo0, .int .i64 hi0, .slice a0 n0 cap0]) (HeldL.nil w)
  obtain ⟨Lb, hLb⟩ : ∃ L, L = [(w.heap.size, [Value.int .i64 lo0, .int .i64 hi0, .slice a0 n0 cap0])] := ⟨_, rfl⟩
  have mY : (w.heap.size, [Value.int .i64 lo0, .int .i64 hi0, .slice a0 n0 cap0]) ∈ Lb := by rw [hLb]; simp
  rw [← hLb] at H
  clear hLb
  go_enter Try.func4, Try.ntmps4
  go_wp2_with fail
  refine (szProcX _ _ _ _ _ 1048576 _ (by omega) hn0).mono ?_
  rintro e w1 ⟨u1, rfl, hu, hb⟩
  replace H := H.next hb
  clear hb
  rcases hu with rfl | hu
  · go_wp2_with fail
    go_ret
    exact ⟨rfl, H.below⟩
  have hs0 : n0 ≤ 1048576 := by omega
  have hg1 : ¬ u1 < 0 := by omega
  clear hu
  obtain ⟨on, hon'⟩ : ∃ x, itvOk lo0 hi0 = x := ⟨_, rfl⟩
  obtain ⟨nn, hnn'⟩ : ∃ x, entN lo0 hi0 = x := ⟨_, rfl⟩
  obtain ⟨LO, hLO'⟩ : ∃ x : Nat → Int, entF lo0 = x := ⟨_, rfl⟩
  obtain ⟨HI, hHI'⟩ : ∃ x : Nat → Int, entF hi0 = x := ⟨_, rfl⟩
  have hn4 : nn ≤ 1048576 := by rw [← hnn']; unfold entN; split <;> omega
  have hon : Hid (itvOk lo0 hi0 = on) := hon'
  have hnn : Hid (entN lo0 hi0 = nn) := hnn'
  have hLO : Hid (entF lo0 = LO) := hLO'
  have hHI : Hid (entF hi0 = HI) := hHI'
  clear hon' hnn' hLO' hHI'
  have c0 := H.cell mY (i := 0) rfl
  have c1 := H.cell mY (i := 1) rfl
  have c2 := H.cell mY (i := 2) rfl
  dsimp only at c0 c1 c2
  go_wp2_with fail
  refine (toProc _ _ _ _ _ _ _ _ _ hs0 (r0.next (HeldL.below H))).mono ?_
  rintro e w2 ⟨X2, rfl, oX2, lX2, pX2, fX2, hb⟩
  clear oX2
  replace H := H.next hb
  clear hb c0 c1 c2
  go_wp2_with fail
  clear pX2 lX2 fX2
  refine (absEntryS _ _ _ _ _ _).mono ?_
  rintro e w3 ⟨v, rfl, hv, hb⟩
  rw [hon.out, hnn.out, hLO.out, hHI.out] at hv
  obtain ⟨aW, gW, capW, rfl, BW⟩ := hv
  replace H := H.next hb
  clear hb
  have ka : Below w3.heap.size w3 (w3.alloc (.cells #[.bool on, .slice aW nn capW, .int .i64 0, .int .i64 0] 32)) := (Below.refl _ _).alloc (Nat.le_refl _) _
  obtain ⟨B3, hX⟩ : ∃ X, X = w3.heap.size := ⟨_, rfl⟩
  replace H := HeldL.newL (vs := [Value.bool on, .slice aW nn capW, .int .i64 0, .int .i64 0]) (t := 32) H
  rw [← hX] at H
  obtain ⟨L3, hL⟩ : ∃ L, L = (B3, [Value.bool on, .slice aW nn capW, .int .i64 0, .int .i64 0]) :: Lb := ⟨_, rfl⟩
  rw [← hL] at H
  have mW : (B3, [Value.bool on, .slice aW nn capW, .int .i64 0, .int .i64 0]) ∈ L3 := by rw [hL]; simp
  replace mY := List.mem_cons_of_mem (B3, [Value.bool on, .slice aW nn capW, .int .i64 0, .int .i64 0]) mY
  rw [← hL] at mY
  replace BW := BW.next ka
  have hXS3 : Hid (B3 = w3.heap.size) := hX
  clear hX hL ka
  have c0 := H.cell mY (i := 0) rfl
  have c1 := H.cell mY (i := 1) rfl
  have c2 := H.cell mY (i := 2) rfl
  dsimp only at c0 c1 c2
  go_wp2_with fail
  rw [← hXS3.out]
  clear hXS3
  refine (toProc _ _ _ _ _ _ _ _ _ hs0 (r0.next (HeldL.below H))).mono ?_
  rintro e w4 ⟨X4, rfl, oX4, lX4, pX4, fX4, hb⟩
  have qX : ∀ e ∈ L3, e.1 ≠ X4 := fun e he h => by have := H.size he; omega
  have oX : w.heap.size ≤ X4 := Nat.le_trans H.below.size oX4
  have oW : 0 < nn → gW < X4 := fun h => Nat.lt_of_lt_of_le (BW.at_.lt h) oX4
  clear oX4
  replace H := H.next hb
  replace BW := BW.next hb
  clear hb c0 c1 c2
  have ka : Below w4.heap.size w4 (w4.alloc (.cells #[.int .i64 lo0, .int .i64 hi0, .slice (some ⟨X4, 0, none⟩) n0 n0] 43)) := (Below.refl _ _).alloc (Nat.le_refl _) _
  obtain ⟨B4, hX⟩ : ∃ X, X = w4.heap.size := ⟨_, rfl⟩
  replace H := HeldL.newL (vs := [Value.int .i64 lo0, .int .i64 hi0, .slice (some ⟨X4, 0, none⟩) n0 n0]) (t := 43) H
  rw [← hX] at H
  obtain ⟨L4, hL⟩ : ∃ L, L = (B4, [Value.int .i64 lo0, .int .i64 hi0, .slice (some ⟨X4, 0, none⟩) n0 n0]) :: L3 := ⟨_, rfl⟩
  replace qX : ∀ e ∈ L4, e.1 ≠ X4 := by
    rw [hL, hX]
    intro e he
    rcases List.mem_cons.1 he with rfl | he
    · have := lX4; dsimp only; omega
    · exact qX e he
  rw [← hL] at H
  have mX : (B4, [Value.int .i64 lo0, .int .i64 hi0, .slice (some ⟨X4, 0, none⟩) n0 n0]) ∈ L4 := by rw [hL]; simp
  replace mY := List.mem_cons_of_mem (B4, [Value.int .i64 lo0, .int .i64 hi0, .slice (some ⟨X4, 0, none⟩) n0 n0]) mY
  rw [← hL] at mY
  replace mW := List.mem_cons_of_mem (B4, [Value.int .i64 lo0, .int .i64 hi0, .slice (some ⟨X4, 0, none⟩) n0 n0]) mW
  rw [← hL] at mW
  replace pX4 := pX4.next ka
  replace fX4 := free_next ka lX4 fX4
  replace lX4 := Nat.lt_of_lt_of_le lX4 (Below.size ka)
  replace BW := BW.next ka
  have hXS4 : Hid (B4 = w4.heap.size) := hX
  clear hX hL ka
  have c0 := H.cell mX (i := 0) rfl
  have c1 := H.cell mX (i := 1) rfl
  have c2 := H.cell mX (i := 2) rfl
  dsimp only at c0 c1 c2
  go_wp2_with fail
  rw [← hXS4.out]
  clear hXS4
  have sX := lX4
  refine (absEntryI _ _ _ _ _ _).mono ?_
  rintro e w5 ⟨v, rfl, hv, hb⟩
  rw [hon.out, hnn.out, hLO.out, hHI.out] at hv
  obtain ⟨aG, gG, capG, rfl, BG⟩ := hv
  have qG : 0 < nn → ∀ e ∈ L4, e.1 ≠ gG := fun h0 e he h => by have := H.size he; have := BG.own h0; omega
  have oG : 0 < nn → X4 < gG := fun h0 => Nat.lt_of_lt_of_le sX (BG.own h0)
  have oGW : 0 < nn → gW < gG := fun h0 => Nat.lt_of_lt_of_le (BW.at_.lt h0) (BG.own h0)
  replace BG := BG.base (C := w.heap.size) (Nat.le_trans H.below.size (Nat.le_refl _))
  clear sX
  replace H := H.next hb
  replace pX4 := pX4.next hb
  replace fX4 := free_next hb lX4 fX4
  replace lX4 := Nat.lt_of_lt_of_le lX4 (Below.size hb)
  replace BW := BW.next hb
  clear hb c0 c1 c2
  have ka : Below w5.heap.size w5 (w5.alloc (.cells #[.bool on, .slice aG nn capG, .int .i64 0, .int .i64 0] 32)) := (Below.refl _ _).alloc (Nat.le_refl _) _
  obtain ⟨B5, hX⟩ : ∃ X, X = w5.heap.size := ⟨_, rfl⟩
  replace H := HeldL.newL (vs := [Value.bool on, .slice aG nn capG, .int .i64 0, .int .i64 0]) (t := 32) H
  rw [← hX] at H
  obtain ⟨L5, hL⟩ : ∃ L, L = (B5, [Value.bool on, .slice aG nn capG, .int .i64 0, .int .i64 0]) :: L4 := ⟨_, rfl⟩
  replace qX : ∀ e ∈ L5, e.1 ≠ X4 := by
    rw [hL, hX]
    intro e he
    rcases List.mem_cons.1 he with rfl | he
    · have := lX4; dsimp only; omega
    · exact qX e he
  replace qG : 0 < nn → ∀ e ∈ L5, e.1 ≠ gG := by
    rw [hL, hX]
    intro h0 e he
    rcases List.mem_cons.1 he with rfl | he
    · have := BG.at_.lt h0; dsimp only; omega
    · exact qG h0 e he
  rw [← hL] at H
  have mG : (B5, [Value.bool on, .slice aG nn capG, .int .i64 0, .int .i64 0]) ∈ L5 := by rw [hL]; simp
  replace mY := List.mem_cons_of_mem (B5, [Value.bool on, .slice aG nn capG, .int .i64 0, .int .i64 0]) mY
  rw [← hL] at mY
  replace mW := List.mem_cons_of_mem (B5, [Value.bool on, .slice aG nn capG, .int .i64 0, .int .i64 0]) mW
  rw [← hL] at mW
  replace mX := List.mem_cons_of_mem (B5, [Value.bool on, .slice aG nn capG, .int .i64 0, .int .i64 0]) mX
  rw [← hL] at mX
  replace pX4 := pX4.next ka
  replace fX4 := free_next ka lX4 fX4
  replace lX4 := Nat.lt_of_lt_of_le lX4 (Below.size ka)
  replace BW := BW.next ka
  replace BG := BG.next ka
  have hXS5 : Hid (B5 = w5.heap.size) := hX
  clear hX hL ka
  have c0 := H.cell mG (i := 0) rfl
  have c1 := H.cell mG (i := 1) rfl
  have c2 := H.cell mG (i := 2) rfl
  have c3 := H.cell mG (i := 3) rfl
  dsimp only at c0 c1 c2 c3
  have d0 := H.cell mW (i := 0) rfl
  have d1 := H.cell mW (i := 1) rfl
  have d2 := H.cell mW (i := 2) rfl
  have d3 := H.cell mW (i := 3) rfl
  dsimp only at d0 d1 d2 d3
  go_wp2_with fail
  rw [← hXS5.out]
  clear hXS5
  refine (eqAbsG _ _ _ _ _ _ _ _ _ _ _ _ _ _ _ hn4 BG.at_ BW.at_).mono ?_
  rintro e w6 ⟨rfl, hb⟩
  replace H := H.next hb
  replace pX4 := pX4.next hb
  replace fX4 := free_next hb lX4 fX4
  replace lX4 := Nat.lt_of_lt_of_le lX4 (Below.size hb)
  replace BW := BW.next hb
  replace BG := BG.next hb
  clear hb c0 c1 c2 c3 d0 d1 d2 d3
  have hS0 : HX w w6 L5 w6.drew := ⟨HeldL.drew H, (Below.refl _ w6).drew⟩
  clear H
  go_wp2_with fail
  refine region_inv3 [(0, 27), (1, 28), (2, 29), (3, 30), (4, 31)]
    (fun j v W => match j with
      | 0 => Is (.agg #[.int .i64 lo0, .int .i64 hi0, .slice (some ⟨X4, 0, none⟩) n0 n0]) v
      | 1 => Is (.agg #[.int .i64 lo0, .int .i64 hi0, .slice a0 n0 cap0]) v
      | 2 => ProcV lo0 hi0 n0 c0 v W
      | 3 => Is (.bool true) v
      | 4 => Is (.bool false) v
      | _ => True)
    (fun _ W => HX w w6 L5 W) TX
    (by kernel_rfl) (by kernel_rfl) (by kernel_rfl) (by kernel_rfl) (by kernel_rfl) rfl hS0 ?_ ?_ ?_
  · intro i j v W W' hji hφ hT
    match j, hji, hφ with
    | 0, _, hφ => exact hφ
    | 1, _, hφ => exact hφ
    | 2, _, hφ => exact hφ.next hT
    | 3, _, hφ => exact hφ
    | 4, _, hφ => exact hφ
    | _ + 5, _, _ => trivial
  · intro i L vals W hi' hφ hS hL hd
    have hi2 : i < 5 := hi'
    clear hi'
    rcases (show i = 0 ∨ i = 1 ∨ i = 2 ∨ i = 3 ∨ i = 4 by omega) with rfl | rfl | rfl | rfl | rfl
    · have x0 := hS.cell mX (i := 0) rfl
      have x1 := hS.cell mX (i := 1) rfl
      have x2 := hS.cell mX (i := 2) rfl
      dsimp only at x0 x1 x2
      refine wpAt_of rfl rfl ?_
      simp only [frOf, Act.put]
      go_wp2_with fail
      first | exact ⟨trivial, rfl, Below.refl _ _, hS⟩ | exact ⟨rfl, Below.refl _ _, hS⟩
    · have x0 := hS.cell mY (i := 0) rfl
      have x1 := hS.cell mY (i := 1) rfl
      have x2 := hS.cell mY (i := 2) rfl
      dsimp only at x0 x1 x2
      refine wpAt_of rfl rfl ?_
      simp only [frOf, Act.put]
      go_wp2_with fail
      first | exact ⟨trivial, rfl, Below.refl _ _, hS⟩ | exact ⟨rfl, Below.refl _ _, hS⟩
    · have k1 : vals 1 = .agg #[.int .i64 lo0, .int .i64 hi0, .slice a0 n0 cap0] := hφ 1 (hd 1 (by decide))
      refine wpAt_of rfl rfl ?_
      simp only [frOf, Act.put]
      go_wp2_with fail
      refine (toProc _ _ _ _ _ _ _ _ _ hs0 (r0.next (HX.below hS))).mono ?_
      rintro e W' ⟨gN, rfl, _, lgN, pgN, _, hb⟩
      go_wp2_with fail
      first | exact ⟨trivial, ⟨_, rfl, lgN, pgN⟩, hb, HX.next hb hS⟩ | exact ⟨⟨_, rfl, lgN, pgN⟩, hb, HX.next hb hS⟩
    · have k0 : vals 0 = .agg #[.int .i64 lo0, .int .i64 hi0, .slice (some ⟨X4, 0, none⟩) n0 n0] := hφ 0 (hd 0 (by decide))
      obtain ⟨g2, k2, l2, q2⟩ : ProcV lo0 hi0 n0 c0 (vals 2) W := hφ 2 (hd 2 (by decide))
      refine wpAt_of rfl rfl ?_
      simp only [frOf, Act.put]
      go_wp2_with fail
      refine (eqProc _ _ _ _ _ _ _ hs0 (fun _ => ⟨Nat.lt_of_lt_of_le lX4 (HX.beh hS).size, l2⟩) (pX4.next (HX.beh hS)) q2).mono ?_
      rintro e W' ⟨rfl, hb⟩
      go_wp2_with fail
      first | exact ⟨trivial, rfl, hb, HX.next hb hS⟩ | exact ⟨rfl, hb, HX.next hb hS⟩
    · have k3 : vals 3 = .bool true := hφ 3 (hd 3 (by decide))
      refine wpAt_of rfl rfl ?_
      simp only [frOf, Act.put]
      go_wp2_with fail
      first | exact ⟨trivial, rfl, Below.refl _ _, hS⟩ | exact ⟨rfl, Below.refl _ _, hS⟩
  intro L vals w7 hall hφ hS
  have k0 : vals 0 = .agg #[.int .i64 lo0, .int .i64 hi0, .slice (some ⟨X4, 0, none⟩) n0 n0] := hφ 0 (by decide)
  have k1 : vals 1 = .agg #[.int .i64 lo0, .int .i64 hi0, .slice a0 n0 cap0] := hφ 1 (by decide)
  have k3 : vals 3 = .bool true := hφ 3 (by decide)
  have k4 : vals 4 = .bool false := hφ 4 (by decide)
  simp only [frOf, Act.put, List.setIfInBounds_toArray, List.set_cons_succ, List.set_cons_zero, k0, k1, k3, k4]
  clear k0 k1 k3 k4 hall hφ hS0
  have H := hS.1
  have hb := hS.2
  clear hS
  replace pX4 := pX4.next hb
  replace fX4 := free_next hb lX4 fX4
  replace lX4 := Nat.lt_of_lt_of_le lX4 (Below.size hb)
  replace BW := BW.next hb
  replace BG := BG.next hb
  clear hb
  have x0 := H.cell mX (i := 0) rfl
  have x1 := H.cell mX (i := 1) rfl
  have x2 := H.cell mX (i := 2) rfl
  dsimp only at x0 x1 x2
  go_wp2_with fail
  refine (markProcI _ _ X4 _ _ _ hs0 (pX4.room lX4 fX4)).mono ?_
  rintro e w8 ⟨rfl, hT⟩
  have hb : Below w.heap.size w7 w8 := hT.below H.below.size (fun k hk => by rw [hk]; exact oX)
  replace H := H.kept (i := 0) hb hT.trn qX
  replace BW := BW.kept (i := 0) hT.trn (fun h0 h => by have := oW h0; omega)
  replace BG := BG.kept (i := 0) hT.trn (fun h0 h => by have := oG h0; omega)
  have hk0 : ¬ (1 + (n0 : Int) * 8) < 0 := by omega
  clear hT hb pX4 lX4 fX4 x0 x1 x2
  clear qX oX
  have c0 := H.cell mG (i := 0) rfl
  have c1 := H.cell mG (i := 1) rfl
  have c2 := H.cell mG (i := 2) rfl
  have c3 := H.cell mG (i := 3) rfl
  dsimp only at c0 c1 c2 c3
  have d0 := H.cell mW (i := 0) rfl
  have d1 := H.cell mW (i := 1) rfl
  have d2 := H.cell mW (i := 2) rfl
  have d3 := H.cell mW (i := 3) rfl
  dsimp only at d0 d1 d2 d3
  go_wp2_with fail
  refine (eqAbsG _ _ _ _ _ _ _ _ _ _ _ _ _ _ _ hn4 BG.at_ BW.at_).mono ?_
  rintro e w9 ⟨rfl, hb⟩
  replace H := H.next hb
  replace BW := BW.next hb
  replace BG := BG.next hb
  clear hb c0 c1 c2 c3 d0 d1 d2 d3
  have c0 := H.cell mG (i := 0) rfl
  have c1 := H.cell mG (i := 1) rfl
  have c2 := H.cell mG (i := 2) rfl
  have c3 := H.cell mG (i := 3) rfl
  dsimp only at c0 c1 c2 c3
  go_wp2_with fail
  refine (markAbsP _ _ _ _ _ LO HI _ _ w.heap.size _ hn4 H.below.size BG.pen BG.at_.at_).mono ?_
  rintro e w10 ⟨rfl, hM, hP, hWr⟩
  have hz : 0 < nn → gG < w10.heap.size := fun h0 => Nat.lt_of_lt_of_le (BG.at_.lt h0) hWr.size
  have hat := BG.at_.at_
  have hH : HeldL w L5 w10 := by
    rcases Nat.eq_zero_or_pos nn with h0 | h0
    · subst h0
      exact HeldL.keptAll H hWr.below ⟨hWr.size, fun p hp => ⟨hWr.other p hp (fun j hj => by omega), hWr.free p hp⟩⟩
    · exact H.kept (i := 0) hWr.below hWr.trn (qG h0)
  replace BW := BW.kept (i := 0) hWr.trn (fun h0 h => by have := oGW h0; omega)
  clear H
  have H := hH
  have hm0 : ¬ ((nn : Int) * 2 + 1) < 0 := by omega
  clear hH hWr BG qG oG oGW oW c0 c1 c2 c3
  have c0 := H.cell mG (i := 0) rfl
  have c1 := H.cell mG (i := 1) rfl
  have c2 := H.cell mG (i := 2) rfl
  have c3 := H.cell mG (i := 3) rfl
  dsimp only at c0 c1 c2 c3
  go_wp2_with fail
  refine (heldAbsP _ _ gG _ _ _ _ _ hn4 (fun h0 => ⟨hat h0, hz h0⟩) hM).mono ?_
  rintro e w11 ⟨rfl, hb⟩
  replace hz : 0 < nn → gG < w11.heap.size := fun h0 => Nat.lt_of_lt_of_le (hz h0) hb.size
  replace H := H.next hb
  replace hM := hM.below hP (Nat.le_refl _) hb
  replace hP := hP.below hb
  replace BW := BW.next hb
  clear hb c0 c1 c2 c3
  have c0 := H.cell mY (i := 0) rfl
  have c1 := H.cell mY (i := 1) rfl
  have c2 := H.cell mY (i := 2) rfl
  dsimp only at c0 c1 c2
  go_wp2_with fail
  refine (toProc _ _ _ _ _ _ _ _ _ hs0 (r0.next (HeldL.below H))).mono ?_
  rintro e w12 ⟨X12, rfl, oX12, lX12, pX12, fX12, hb⟩
  clear oX12
  replace H := H.next hb
  replace hM := hM.below hP (Nat.le_refl _) hb
  replace hP := hP.below hb
  replace BW := BW.next hb
  clear hb c0 c1 c2
  replace hz : 0 < nn → gG < w12.heap.size := fun h0 => (hP.lo 0 (by omega)).2
  go_wp2_with fail
  clear pX12 lX12 fX12
  refine (absEntryI _ _ _ _ _ _).mono ?_
  rintro e w13 ⟨v, rfl, hv, hb⟩
  rw [hon.out, hnn.out, hLO.out, hHI.out] at hv
  obtain ⟨aH, gH, capH, rfl, BH⟩ := hv
  replace hz : 0 < nn → gG < w13.heap.size := fun h0 => Nat.lt_of_lt_of_le (hz h0) hb.size
  replace H := H.next hb
  replace hM := hM.below hP (Nat.le_refl _) hb
  replace hP := hP.below hb
  replace BW := BW.next hb
  clear hb
  have ka : Below w13.heap.size w13 (w13.alloc (.cells #[.bool on, .slice aH nn capH, .int .i64 0, .int .i64 0] 32)) := (Below.refl _ _).alloc (Nat.le_refl _) _
  obtain ⟨B13, hX⟩ : ∃ X, X = w13.heap.size := ⟨_, rfl⟩
  replace H := HeldL.newL (vs := [Value.bool on, .slice aH nn capH, .int .i64 0, .int .i64 0]) (t := 32) H
  rw [← hX] at H
  obtain ⟨L13, hL⟩ : ∃ L, L = (B13, [Value.bool on, .slice aH nn capH, .int .i64 0, .int .i64 0]) :: L5 := ⟨_, rfl⟩
  rw [← hL] at H
  have mH : (B13, [Value.bool on, .slice aH nn capH, .int .i64 0, .int .i64 0]) ∈ L13 := by rw [hL]; simp
  replace mY := List.mem_cons_of_mem (B13, [Value.bool on, .slice aH nn capH, .int .i64 0, .int .i64 0]) mY
  rw [← hL] at mY
  replace mW := List.mem_cons_of_mem (B13, [Value.bool on, .slice aH nn capH, .int .i64 0, .int .i64 0]) mW
  rw [← hL] at mW
  replace mX := List.mem_cons_of_mem (B13, [Value.bool on, .slice aH nn capH, .int .i64 0, .int .i64 0]) mX
  rw [← hL] at mX
  replace mG := List.mem_cons_of_mem (B13, [Value.bool on, .slice aH nn capH, .int .i64 0, .int .i64 0]) mG
  rw [← hL] at mG
  replace hM := hM.below hP (Nat.le_refl _) ka
  replace hP := hP.below ka
  replace BW := BW.next ka
  replace BH := BH.next ka
  have hXS13 : Hid (B13 = w13.heap.size) := hX
  clear hX hL ka
  have c0 := H.cell mH (i := 0) rfl
  have c1 := H.cell mH (i := 1) rfl
  have c2 := H.cell mH (i := 2) rfl
  have c3 := H.cell mH (i := 3) rfl
  dsimp only at c0 c1 c2 c3
  have d0 := H.cell mW (i := 0) rfl
  have d1 := H.cell mW (i := 1) rfl
  have d2 := H.cell mW (i := 2) rfl
  have d3 := H.cell mW (i := 3) rfl
  dsimp only at d0 d1 d2 d3
  go_wp2_with fail
  rw [← hXS13.out]
  clear hXS13
  refine (eqAbsG _ _ _ _ _ _ _ _ _ _ _ _ _ _ _ hn4 BH.at_ BW.at_).mono ?_
  rintro e w14 ⟨rfl, hb⟩
  replace H := H.next hb
  replace hM := hM.below hP (Nat.le_refl _) hb
  replace hP := hP.below hb
  replace BW := BW.next hb
  replace BH := BH.next hb
  clear hb c0 c1 c2 c3 d0 d1 d2 d3
  replace hz : 0 < nn → gG < w14.heap.size := fun h0 => (hP.lo 0 (by omega)).2
  have c0 := H.cell mG (i := 0) rfl
  have c1 := H.cell mG (i := 1) rfl
  have c2 := H.cell mG (i := 2) rfl
  have c3 := H.cell mG (i := 3) rfl
  dsimp only at c0 c1 c2 c3
  go_wp2_with fail
  refine (heldAbsP _ _ gG _ _ _ _ _ hn4 (fun h0 => ⟨hat h0, hz h0⟩) hM).mono ?_
  rintro e w15 ⟨rfl, hb⟩
  replace hz : 0 < nn → gG < w15.heap.size := fun h0 => Nat.lt_of_lt_of_le (hz h0) hb.size
  replace H := H.next hb
  replace hM := hM.below hP (Nat.le_refl _) hb
  replace hP := hP.below hb
  replace BW := BW.next hb
  replace BH := BH.next hb
  clear hb c0 c1 c2 c3
  go_wp2_with fail
  go_ret
  exact ⟨rfl, H.below⟩

set_option maxRecDepth 100000 in
theorem contract (H : Type) (enc : TypeId × Value → H) (W : World) (base : Nat) (args : Array Value) (ds gs : List (DataW H)) (before : List MemPlace)
    (hval : ∀ (j : Nat) t v, Try.f4.params[j]? = some t → args[j]? = some v → Value.okWide Try.prog W .any base t v)
    (hW : DataW.Whole enc Try.prog Try.f4.params.toList Rows.fnExactAbsEntrySpec.vars false W args.toList ds gs before) :
    Calls Try.prog 4 args W fun e W' => ∃ v, e = .returned v ∧ Rows.fnExactAbsEntrySpec.post enc Try.prog Try.f4 false true false false W args v W' := by
  have hW' := hW
  obtain ⟨p, q, hA0, hV, rfl, hfz, hnd⟩ := hW
  have hA : DataW.TrodAll enc Try.prog W 0 (fun _ => true) true Try.f4.params.toList args.toList ds p := hA0
  rw [Try.params4] at hA hval
  obtain ⟨v0, vs0, d0, ds0, p0, q0, hargs, rfl, rfl, h0, r0'⟩ := trodAll_cons hA
  obtain ⟨rfl, rfl, rfl⟩ := trodAll_nil r0'
  obtain rfl : args = #[v0] := by cases args; simp_all
  obtain ⟨rfl, rfl⟩ := trodVars_none hV
  have k0 := h0
  have lt0 : ∀ x ∈ p0, x.block < W.heap.size := by obtain ⟨m, hm⟩ := k0; exact DataW.trod_lt m _ _ _ hm
  obtain ⟨lo0, hi0, a0, n0, cap0, rfl, hn0, r0⟩ := open_proc (hval 0 38 v0 rfl rfl) h0
  clear hA0
  refine (walk lo0 hi0 a0 _ _ n0 cap0 _ hn0 W r0).mono fun e W' ⟨he, bel⟩ => ?_
  subst he
  exact ⟨_, rfl, _, _, _, [], _, [], hW', trodAll_mk1 (shut_bool Try.underlying4 _), (trodAll_cons_mk (Below.trod laidOut (by kernel_rfl) (of_decide_eq_true (by kernel_rfl)) k0 bel lt0) trodAll_mk0), rfl, bel.frame _, fun h => by cases h⟩

set_option maxRecDepth 100000 in
theorem lifted (os : Os) (started : os.Started) (H : Type) (enc : TypeId × Value → H) :
    ReturnsInHanded {} Try.checked os 4 .any (Rows.fnExactAbsEntrySpec.pre6 enc Try.prog Try.f4 Rows.fnExactAbsEntryRow.domain false) (Rows.fnExactAbsEntrySpec.post enc Try.prog Try.f4 false true false false) := by
  refine returnsInHanded_of_change (C := Try.checked) own started (by kernel_rfl) Try.func4
    (ChangeSpec.witness6 (enc := enc) (C := Try.checked) false ⟨#[], #[.agg #[.int .i64 0, .int .i64 0, .slice none 0 0]], []⟩ 8 (by kernel_rfl) (by kernel_rfl) (by kernel_rfl) (by kernel_rfl)) ?_
  intro W base args ds gs before hval hW _ _
  exact contract H enc W base args ds gs before hval hW

theorem proved : Rows.FnExactAbsEntrySaid :=
  OpenClaim.holds_of_wide 4 Try.f4 rfl rfl rfl rfl rfl rfl rfl ⟨rfl, rfl, rfl, rfl, rfl⟩ rfl rfl rfl rfl rfl (by kernel_rfl) Try.func4 (by kernel_rfl)
    (of_decide_eq_true (by kernel_rfl)) (by unfold Func.isWrapper; first | (rw [if_pos (by decide +kernel)]; kernel_rfl) | (rw [if_neg (by decide +kernel)]; exact ⟨rfl, rfl⟩))
    (fun os started H enc _ => lifted os started H enc)
#print axioms proved
end Go.Proofs.Ytddcojeghdnhnaa.fnExactAbsEntry
