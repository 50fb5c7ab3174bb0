/- Whatever two states are handed in, the law FnExactAbsWide returns true: the program's function answers as the model's, its state is its own, behind another call too, and it turns nothing of its arguments. No condition. Of states of more than 1048576 bounds the law itself answers true. -/
import Derived.Test.YtddcojeghdnhnaaDoorOpenAbs
import Derived.Test.YtddcojeghdnhnaaDoorAbsWideW
import Derived.Test.YtddcojeghdnhnaaDoorAbsWideI
import Derived.Test.YtddcojeghdnhnaaDoorAbsTwo
import Derived.Test.YtddcojeghdnhnaaDoorCards
import Derived.Test.YtddcojeghdnhnaaDoorTie
import Derived.Deep.RegionHeld3
import Derived.Deep.DeepCutAuto
import Derived.WalkKit
import Derived.ProofKit
import Derived.OpenShut
import Derived.ShutString
import Derived.ChangeOld
import Derived.Below
import Derived.ChangeVars
import Derived.Carry
import Derived.Deep.DeepHandedRow
import Derived.Lib.LaidTab
import Derived.LaidSub
namespace Go.Proofs.YtddcojeghdnhnaaDoor.fnExactAbsWide
open Go.ChangeShapes Go.WideShapes Go.ChangeAt Go.RowKit
open Go.ChangeMaps (open_string shut_string)
set_option linter.unusedVariables false

theorem own : ownKnob Tryd.prog.godebug = none := by kernel_rfl
theorem laidOut : laidOutB Tryd.prog = true := by kernel_rfl
theorem gVar : Tryd.prog.globalNamed "loop.example/outwork/impl.wideSteps" = some 0 := by kernel_rfl
theorem gVarType : (Tryd.prog.globals[0]?).map (·.type) = some 58 := by kernel_rfl
theorem cellsVar : Tryd.prog.cellsOf 58 = 11 := by kernel_rfl
theorem cellsVarOne : Tryd.prog.cellsOf 3 = 1 := by kernel_rfl
theorem varTable {W : World} (h : laidMetH Tryd.prog Rows.fnExactAbsWideRow.laid W) : Lib.TabIs Tryd.prog W "loop.example/outwork/impl.wideSteps" .i64 [-32768, -1000, -100, -10, -1, 0, 1, 10, 100, 1000, 32767] := by
  have h1 := h.filter (fun x => x.1 == "loop.example/outwork/impl.wideSteps")
  have e : Rows.fnExactAbsWideRow.laid.filter (fun x => x.1 == "loop.example/outwork/impl.wideSteps") = [("loop.example/outwork/impl.wideSteps", Lib.tabData .i64 [-32768, -1000, -100, -10, -1, 0, 1, 10, 100, 1000, 32767])] := by kernel_rfl
  rw [e] at h1
  exact Lib.tabIs_of_head (rest := []) gVar gVarType Tryd.underlying58 Tryd.underlying3 cellsVarOne cellsVar h1
theorem varStays {W W' : World} {cs : Array Value} (h : W.var? Tryd.prog "loop.example/outwork/impl.wideSteps" = some cs) (hb : Below W.heap.size W W') : W'.var? Tryd.prog "loop.example/outwork/impl.wideSteps" = some cs := by
  unfold World.var? at *
  rw [gVar] at h ⊢
  simp only [Option.bind_some] at h ⊢
  have hlt : 0 < W.heap.size := by
    rcases Nat.lt_or_ge 0 W.heap.size with h' | h'
    · exact h'
    · rw [Array.getElem?_eq_none h'] at h; simp at h
  rw [hb.block _ hlt]
  exact h

theorem free_next {W W' : World} {g : Nat} (hb : Below W.heap.size W W') (hl : g < W.heap.size) (hf : ∀ i, W.frozen? ⟨g, i, none⟩ = false) : ∀ i, W'.frozen? ⟨g, i, none⟩ = false := fun i => (hb.frozen (p := ⟨g, i, none⟩) hl).trans (hf i)
theorem HeldL.keptAll {w : World} {L : List (Nat × List Value)} {W W' : World} (h : HeldL w L W) (hb : Below w.heap.size W W') (t : W.heap.size ≤ W'.heap.size ∧ ∀ p : Addr, p.block < W.heap.size → W'.cell? p = W.cell? p ∧ W'.frozen? p = W.frozen? p) : HeldL w L W' :=
  ⟨h.below.trans hb, fun e he => by
    obtain ⟨h1, h2, h3⟩ := h.cells e he
    exact ⟨h1, Nat.lt_of_lt_of_le h2 t.1, fun i v hv => (t.2 ⟨e.1, i, none⟩ h2).1.trans (h3 i v hv)⟩,
    fun e he i => (t.2 ⟨e.1, i, none⟩ (h.cells e he).2.1).2.trans (h.free e he i)⟩

set_option maxRecDepth 10000 in
set_option maxHeartbeats 40000000 in
theorem walk (on0 : Bool) (x0 y0 : Int) (a0 : Option Addr) (b0 off0 n0 cap0 : Nat) (lo0 hi0 : Nat → Int) (hn0 : n0 ≤ maxLen) (on1 : Bool) (x1 y1 : Int) (a1 : Option Addr) (b1 off1 n1 cap1 : Nat) (lo1 hi1 : Nat → Int) (hn1 : n1 ≤ maxLen) (w : World) (r0 : BndsAt a0 b0 off0 n0 lo0 hi0 w) (r1 : BndsAt a1 b1 off1 n1 lo1 hi1 w) (hvar : Lib.TabIs Tryd.prog w "loop.example/outwork/impl.wideSteps" .i64 [-32768, -1000, -100, -10, -1, 0, 1, 10, 100, 1000, 32767]) :
    Calls Tryd.prog 3 #[.agg #[.bool on0, .slice a0 n0 cap0, .int .i64 x0, .int .i64 y0], .agg #[.bool on1, .slice a1 n1 cap1, .int .i64 x1, .int .i64 y1]] w fun e w' => e = .returned (.bool true) ∧ Below w.heap.size w w' := by
  have H : HeldL w [(w.heap.size + 1, [Value.bool on1, .slice a1 n1 cap1, .int .i64 x1, .int .i64 y1]), (w.heap.size, [Value.bool on0, .slice a0 n0 cap0, .int .i64 x0, .int .i64 y0])] ((w.alloc (.cells #[.bool on0, .slice a0 n0 cap0, .int .i64 x0, .int .i64 y0] 26)).alloc (.cells #[.bool on1, .slice a1 n1 cap1, .int .i64 x1, .int .i64 y1] 26)) := by
    have e1 : w.heap.size + 1 = (w.alloc (.cells #[.bool on0, .slice a0 n0 cap0, .int .i64 x0, .int .i64 y0] 26)).heap.size := by simp
    rw [e1]
    exact HeldL.newL (vs := [Value.bool on1, .slice a1 n1 cap1, .int .i64 x1, .int .i64 y1]) (HeldL.newL (vs := [Value.bool on0, .slice a0 n0 cap0, .int .i64 x0, .int .i64 y0]) (HeldL.nil w))
  obtain ⟨Lb, hLb⟩ : ∃ L, L = [(w.heap.size + 1, [Value.bool on1, .slice a1 n1 cap1, .int .i64 x1, .int .i64 y1]), (w.heap.size, [Value.bool on0, .slice a0 n0 cap0, .int .i64 x0, .int .i64 y0])] := ⟨_, rfl⟩
  have m0 : (w.heap.size, [Value.bool on0, .slice a0 n0 cap0, .int .i64 x0, .int .i64 y0]) ∈ Lb := by rw [hLb]; simp
  have m1 : (w.heap.size + 1, [Value.bool on1, .slice a1 n1 cap1, .int .i64 x1, .int .i64 y1]) ∈ Lb := by rw [hLb]; simp
  rw [← hLb] at H
  clear hLb
  go_enter Tryd.func3, Tryd.ntmps3
  go_wp2_with fail
  refine (szAbs _ _ _ _ _ _ 1048576 _ (by omega) hn0).mono ?_
  rintro e w1 ⟨u1, rfl, hu, hb⟩
  replace H := H.next hb
  clear hb
  rcases hu with rfl | hu
  · go_wp2_with fail
    go_ret
    exact ⟨rfl, H.below⟩
  have hs0 : n0 ≤ 1048576 := by omega
  have hl1 : 0 ≤ u1 ∧ u1 ≤ 1048576 := by omega
  have hg1 : ¬ u1 < 0 := by omega
  clear hu
  have c0 := H.cell m1 (i := 0) rfl
  have c1 := H.cell m1 (i := 1) rfl
  have c2 := H.cell m1 (i := 2) rfl
  have c3 := H.cell m1 (i := 3) rfl
  dsimp only at c0 c1 c2 c3
  go_wp2_with fail
  refine (szAbs _ _ _ _ _ _ u1 _ hl1 hn1).mono ?_
  rintro e w2 ⟨u2, rfl, hu, hb⟩
  replace H := H.next hb
  clear hb
  clear c0 c1 c2 c3
  rcases hu with rfl | hu
  · go_wp2_with fail
    go_ret
    exact ⟨rfl, H.below⟩
  have hs1 : n1 ≤ 1048576 := by omega
  have hl2 : 0 ≤ u2 ∧ u2 ≤ 1048576 := by omega
  have hg2 : ¬ u2 < 0 := by omega
  clear hu
  clear hl1 hg1
  obtain ⟨on, hon'⟩ : ∃ x, ((absOk on0 n0 lo0 hi0 x0 y0 && absOk on1 n1 lo1 hi1 x1 y1) && (on0 || on1)) = x := ⟨_, rfl⟩
  obtain ⟨nn, hnn'⟩ : ∃ x, onN on = x := ⟨_, rfl⟩
  obtain ⟨LO, hLO'⟩ : ∃ x : Nat → Int, (jF on0 on1 (arL on0 lo0 x0) (arL on1 lo1 x1) (fun k => wideLo (arL on0 lo0 x0 k) (arL on0 hi0 y0 k) (arL on1 lo1 x1 k) (arL on1 hi1 y1 k))) = x := ⟨_, rfl⟩
  obtain ⟨HI, hHI'⟩ : ∃ x : Nat → Int, (jF on0 on1 (arL on0 hi0 y0) (arL on1 hi1 y1) (fun k => wideHi (arL on0 lo0 x0 k) (arL on0 hi0 y0 k) (arL on1 lo1 x1 k) (arL on1 hi1 y1 k))) = x := ⟨_, rfl⟩
  obtain ⟨jc, hjc'⟩ : ∃ x : Int, onF on (LO 4) = x := ⟨_, rfl⟩
  obtain ⟨jd, hjd'⟩ : ∃ x : Int, onF on (HI 4) = x := ⟨_, rfl⟩
  have hn4 : nn ≤ 1048576 := by rw [← hnn']; cases on <;> simp [onN]
  have hon : Hid (((absOk on0 n0 lo0 hi0 x0 y0 && absOk on1 n1 lo1 hi1 x1 y1) && (on0 || on1)) = on) := hon'
  have hnn : Hid (onN on = nn) := hnn'
  have hLO : Hid ((jF on0 on1 (arL on0 lo0 x0) (arL on1 lo1 x1) (fun k => wideLo (arL on0 lo0 x0 k) (arL on0 hi0 y0 k) (arL on1 lo1 x1 k) (arL on1 hi1 y1 k))) = LO) := hLO'
  have hHI : Hid ((jF on0 on1 (arL on0 hi0 y0) (arL on1 hi1 y1) (fun k => wideHi (arL on0 lo0 x0 k) (arL on0 hi0 y0 k) (arL on1 lo1 x1 k) (arL on1 hi1 y1 k))) = HI) := hHI'
  have hjc : Hid (onF on (LO 4) = jc) := hjc'
  have hjd : Hid (onF on (HI 4) = jd) := hjd'
  clear hon' hnn' hLO' hHI' hjc' hjd'
  have nA : ∀ v {W W' : World}, AbsV on0 n0 lo0 hi0 x0 y0 v W → Below W.heap.size W W' → AbsV on0 n0 lo0 hi0 x0 y0 v W' := fun _ _ _ h hb => AbsV.next h hb
  have nB : ∀ v {W W' : World}, AbsV on1 n1 lo1 hi1 x1 y1 v W → Below W.heap.size W W' → AbsV on1 n1 lo1 hi1 x1 y1 v W' := fun _ _ _ h hb => AbsV.next h hb
  have hS0 := TwoS.start (A := AbsV on0 n0 lo0 hi0 x0 y0) (B := AbsV on1 n1 lo1 hi1 x1 y1) (on := on) (n := nn) (lo := LO) (hi := HI) (c := jc) (d := jd) H
  have hNw := HeldL.below H
  have hN1 : ∀ e ∈ Lb, e.1 < w2.heap.size := fun e he => H.size he
  clear H
  go_wp2_with fail
  refine region_inv4 [(0, 24), (1, 25), (2, 26), (3, 27), (4, 28), (5, 6)]
    (fun j v => match j with
      | 0 => Is (.agg #[.bool on0, .slice a0 n0 cap0, .int .i64 x0, .int .i64 y0]) v
      | 2 => Is (.agg #[.bool on1, .slice a1 n1 cap1, .int .i64 x1, .int .i64 y1]) v
      | _ => True)
    (fun L vals W => TwoS w w2 Lb (AbsV on0 n0 lo0 hi0 x0 y0) (AbsV on1 n1 lo1 hi1 x1 y1) on nn LO HI jc jd L vals W)
    (by kernel_rfl) (by kernel_rfl) (by kernel_rfl) (by kernel_rfl) (by kernel_rfl) rfl hS0 ?_ ?_
  · intro i L vals W hi' hφ hS hL hd
    have hi2 : i < 7 := hi'
    clear hi' hS0
    rcases (show i = 0 ∨ i = 1 ∨ i = 2 ∨ i = 3 ∨ i = 4 ∨ i = 5 ∨ i = 6 by omega) with rfl | rfl | rfl | rfl | rfl | rfl | rfl
    · have c0 := hS.hx.cell m0 (i := 0) rfl
      have c1 := hS.hx.cell m0 (i := 1) rfl
      have c2 := hS.hx.cell m0 (i := 2) rfl
      have c3 := hS.hx.cell m0 (i := 3) rfl
      dsimp only at c0 c1 c2 c3
      refine wpAt_of rfl rfl ?_
      simp only [frOf, Act.put]
      go_wp2_with fail
      first | exact ⟨trivial, rfl, hS.pure (by decide) (by decide) (by decide) (by decide) (by decide)⟩ | exact ⟨rfl, hS.pure (by decide) (by decide) (by decide) (by decide) (by decide)⟩
    · have k0 : vals 0 = .agg #[.bool on0, .slice a0 n0 cap0, .int .i64 x0, .int .i64 y0] := hφ 0 (hd 0 (by decide))
      refine wpAt_of rfl rfl ?_
      simp only [frOf, Act.put]
      go_wp2_with fail
      refine (toAbs _ _ _ _ _ _ _ _ _ _ _ hs0 (r0.next hS.hx.below)).mono ?_
      rintro e W' ⟨gN, rfl, _, lgN, pgN, _, hb⟩
      go_wp2_with fail
      first | exact ⟨trivial, trivial, (hS.next nA nB hb).set1 ⟨_, rfl, lgN, pgN⟩⟩ | exact ⟨trivial, (hS.next nA nB hb).set1 ⟨_, rfl, lgN, pgN⟩⟩ | exact (hS.next nA nB hb).set1 ⟨_, rfl, lgN, pgN⟩
    · have c0 := hS.hx.cell m1 (i := 0) rfl
      have c1 := hS.hx.cell m1 (i := 1) rfl
      have c2 := hS.hx.cell m1 (i := 2) rfl
      have c3 := hS.hx.cell m1 (i := 3) rfl
      dsimp only at c0 c1 c2 c3
      refine wpAt_of rfl rfl ?_
      simp only [frOf, Act.put]
      go_wp2_with fail
      first | exact ⟨trivial, rfl, hS.pure (by decide) (by decide) (by decide) (by decide) (by decide)⟩ | exact ⟨rfl, hS.pure (by decide) (by decide) (by decide) (by decide) (by decide)⟩
    · have k2 : vals 2 = .agg #[.bool on1, .slice a1 n1 cap1, .int .i64 x1, .int .i64 y1] := hφ 2 (hd 2 (by decide))
      refine wpAt_of rfl rfl ?_
      simp only [frOf, Act.put]
      go_wp2_with fail
      refine (toAbs _ _ _ _ _ _ _ _ _ _ _ hs1 (r1.next hS.hx.below)).mono ?_
      rintro e W' ⟨gN, rfl, _, lgN, pgN, _, hb⟩
      go_wp2_with fail
      first | exact ⟨trivial, trivial, (hS.next nA nB hb).set3 ⟨_, rfl, lgN, pgN⟩⟩ | exact ⟨trivial, (hS.next nA nB hb).set3 ⟨_, rfl, lgN, pgN⟩⟩ | exact (hS.next nA nB hb).set3 ⟨_, rfl, lgN, pgN⟩
    · obtain ⟨g1, k1, l1, q1⟩ := hS.v1 (hd 1 (by decide)) (hS.no6 hL)
      obtain ⟨g3, k3, l3, q3⟩ := hS.v3 (hd 3 (by decide)) (hS.no6 hL)
      refine wpAt_of rfl rfl ?_
      simp only [frOf, Act.put]
      go_wp2_with fail
      refine (absWideS _ _ _ _ _ _ _ _ _ _ _ _ _ _ _ _ _ _ _ _ _  q1 q3).mono ?_
      rintro e W' ⟨v, rfl, hv, hb⟩
      rw [hon.out, hLO.out, hHI.out, hnn.out, hjc.out, hjd.out] at hv
      go_wp2_with fail
      first | exact ⟨trivial, trivial, hS.set4 nA nB hb hL hv⟩ | exact ⟨trivial, hS.set4 nA nB hb hL hv⟩ | exact hS.set4 nA nB hb hL hv
    · refine wpAt_of rfl rfl ?_
      simp only [frOf, Act.put]
      go_wp2_with fail
      first | exact ⟨trivial, trivial, hS.made nA nB hL rfl⟩ | exact ⟨trivial, hS.made nA nB hL rfl⟩ | exact hS.made nA nB hL rfl
    · obtain ⟨aq, gq, cq, k4, hB, hne⟩ := hS.ans (hd 4 (by decide))
      obtain ⟨bq, k5, kb1, kb2, kbf, kcs, _⟩ := hS.box (hd 5 (by decide))
      obtain ⟨u0, c0⟩ := kcs 0 (by omega)
      obtain ⟨u1, c1⟩ := kcs 1 (by omega)
      obtain ⟨u2, c2⟩ := kcs 2 (by omega)
      obtain ⟨u3, c3⟩ := kcs 3 (by omega)
      clear kcs
      refine wpAt_none rfl rfl ?_
      simp only [frOf, Act.put]
      go_wp2_with fail
      first | exact ⟨trivial, trivial, hS.sto hNw hN1 (hd 5 (by decide)) (hd 4 (by decide)) k4 k5⟩ | exact ⟨trivial, hS.sto hNw hN1 (hd 5 (by decide)) (hd 4 (by decide)) k4 k5⟩ | exact hS.sto hNw hN1 (hd 5 (by decide)) (hd 4 (by decide)) k4 k5
  intro L vals w3 hall hφ hS
  have k0 : vals 0 = .agg #[.bool on0, .slice a0 n0 cap0, .int .i64 x0, .int .i64 y0] := hφ 0 (by decide)
  have k2 : vals 2 = .agg #[.bool on1, .slice a1 n1 cap1, .int .i64 x1, .int .i64 y1] := hφ 2 (by decide)
  obtain ⟨aW, gW, capW, k4, BW, hne⟩ := hS.ans (hall 4 (by decide))
  obtain ⟨bW, k5, kb1, kb2, kbf, _, kcs⟩ := hS.box (hall 5 (by decide))
  replace kcs := kcs (hall 6 (by decide)) _ _ k4
  replace hne : 0 < nn → gW ≠ bW := fun h0 e => hne (hall 5 (by decide)) h0 (by rw [k5, e])
  simp only [frOf, Act.put, List.setIfInBounds_toArray, List.set_cons_succ, List.set_cons_zero, k0, k2, k4, k5]
  have hb := hS.hx.2
  have H := HeldL.withNewL hS.hx.1 (Nat.le_trans hNw.size kb1) kb2 kbf kcs
  clear k0 k2 k4 k5 hall hφ hS0 hS kbf kcs
  obtain ⟨L3, hL⟩ : ∃ L, L = (bW, [Value.bool on, .slice aW nn capW, .int .i64 jc, .int .i64 jd]) :: Lb := ⟨_, rfl⟩
  rw [← hL] at H
  have mW : (bW, [Value.bool on, .slice aW nn capW, .int .i64 jc, .int .i64 jd]) ∈ L3 := by rw [hL]; simp
  replace m0 := List.mem_cons_of_mem (bW, [Value.bool on, .slice aW nn capW, .int .i64 jc, .int .i64 jd]) m0
  rw [← hL] at m0
  replace m1 := List.mem_cons_of_mem (bW, [Value.bool on, .slice aW nn capW, .int .i64 jc, .int .i64 jd]) m1
  rw [← hL] at m1
  replace BW := BW.base (C := w.heap.size) hNw.size
  clear hL hNw hN1 kb1 kb2 hne hb
  have c0 := H.cell m0 (i := 0) rfl
  have c1 := H.cell m0 (i := 1) rfl
  have c2 := H.cell m0 (i := 2) rfl
  have c3 := H.cell m0 (i := 3) rfl
  dsimp only at c0 c1 c2 c3
  go_wp2_with fail
  refine (toAbs _ _ _ _ _ _ _ _ _ _ _ hs0 (r0.next (HeldL.below H))).mono ?_
  rintro e w4 ⟨X4, rfl, oX4, lX4, pX4, fX4, hb⟩
  have qX4 : ∀ e ∈ L3, e.1 ≠ X4 := fun e he h => by have := H.size he; omega
  have oWX4 : w.heap.size ≤ X4 := Nat.le_trans H.below.size oX4
  have oGX4 : 0 < nn → gW < X4 := fun h => Nat.lt_of_lt_of_le (BW.at_.lt h) oX4
  clear oX4
  replace H := H.next hb
  replace BW := BW.next hb
  clear hb c0 c1 c2 c3
  have ka : Below w4.heap.size w4 (w4.alloc (.cells #[.bool on0, .slice (some ⟨X4, 0, none⟩) n0 n0, .int .i64 x0, .int .i64 y0] 31)) := (Below.refl _ _).alloc (Nat.le_refl _) _
  obtain ⟨B4, hX⟩ : ∃ X, X = w4.heap.size := ⟨_, rfl⟩
  replace H := HeldL.newL (vs := [Value.bool on0, .slice (some ⟨X4, 0, none⟩) n0 n0, .int .i64 x0, .int .i64 y0]) (t := 31) H
  rw [← hX] at H
  obtain ⟨L4, hL⟩ : ∃ L, L = (B4, [Value.bool on0, .slice (some ⟨X4, 0, none⟩) n0 n0, .int .i64 x0, .int .i64 y0]) :: L3 := ⟨_, rfl⟩
  replace qX4 : ∀ e ∈ L4, e.1 ≠ X4 := by
    rw [hL, hX]
    intro e he
    rcases List.mem_cons.1 he with rfl | he
    · have := lX4; dsimp only; omega
    · exact qX4 e he
  rw [← hL] at H
  have mX : (B4, [Value.bool on0, .slice (some ⟨X4, 0, none⟩) n0 n0, .int .i64 x0, .int .i64 y0]) ∈ L4 := by rw [hL]; simp
  replace m0 := List.mem_cons_of_mem (B4, [Value.bool on0, .slice (some ⟨X4, 0, none⟩) n0 n0, .int .i64 x0, .int .i64 y0]) m0
  rw [← hL] at m0
  replace m1 := List.mem_cons_of_mem (B4, [Value.bool on0, .slice (some ⟨X4, 0, none⟩) n0 n0, .int .i64 x0, .int .i64 y0]) m1
  rw [← hL] at m1
  replace mW := List.mem_cons_of_mem (B4, [Value.bool on0, .slice (some ⟨X4, 0, none⟩) n0 n0, .int .i64 x0, .int .i64 y0]) mW
  rw [← hL] at mW
  replace pX4 := pX4.next ka
  replace fX4 := free_next ka lX4 fX4
  replace lX4 := Nat.lt_of_lt_of_le lX4 (Below.size ka)
  replace BW := BW.next ka
  have hXS4 : Hid (B4 = w4.heap.size) := hX
  clear hX hL ka
  have c0 := H.cell m1 (i := 0) rfl
  have c1 := H.cell m1 (i := 1) rfl
  have c2 := H.cell m1 (i := 2) rfl
  have c3 := H.cell m1 (i := 3) rfl
  dsimp only at c0 c1 c2 c3
  go_wp2_with fail
  rw [← hXS4.out]
  clear hXS4
  refine (toAbs _ _ _ _ _ _ _ _ _ _ _ hs1 (r1.next (HeldL.below H))).mono ?_
  rintro e w5 ⟨X5, rfl, oX5, lX5, pX5, fX5, hb⟩
  have qX5 : ∀ e ∈ L4, e.1 ≠ X5 := fun e he h => by have := H.size he; omega
  have oWX5 : w.heap.size ≤ X5 := Nat.le_trans H.below.size oX5
  have oGX5 : 0 < nn → gW < X5 := fun h => Nat.lt_of_lt_of_le (BW.at_.lt h) oX5
  have oXY : X4 < X5 := Nat.lt_of_lt_of_le lX4 oX5
  clear oX5
  replace H := H.next hb
  replace pX4 := pX4.next hb
  replace fX4 := free_next hb lX4 fX4
  replace lX4 := Nat.lt_of_lt_of_le lX4 (Below.size hb)
  replace BW := BW.next hb
  clear hb c0 c1 c2 c3
  have ka : Below w5.heap.size w5 (w5.alloc (.cells #[.bool on1, .slice (some ⟨X5, 0, none⟩) n1 n1, .int .i64 x1, .int .i64 y1] 31)) := (Below.refl _ _).alloc (Nat.le_refl _) _
  obtain ⟨B5, hX⟩ : ∃ X, X = w5.heap.size := ⟨_, rfl⟩
  replace H := HeldL.newL (vs := [Value.bool on1, .slice (some ⟨X5, 0, none⟩) n1 n1, .int .i64 x1, .int .i64 y1]) (t := 31) H
  rw [← hX] at H
  obtain ⟨L5, hL⟩ : ∃ L, L = (B5, [Value.bool on1, .slice (some ⟨X5, 0, none⟩) n1 n1, .int .i64 x1, .int .i64 y1]) :: L4 := ⟨_, rfl⟩
  replace qX4 : ∀ e ∈ L5, e.1 ≠ X4 := by
    rw [hL, hX]
    intro e he
    rcases List.mem_cons.1 he with rfl | he
    · have := lX4; dsimp only; omega
    · exact qX4 e he
  replace qX5 : ∀ e ∈ L5, e.1 ≠ X5 := by
    rw [hL, hX]
    intro e he
    rcases List.mem_cons.1 he with rfl | he
    · have := lX5; dsimp only; omega
    · exact qX5 e he
  rw [← hL] at H
  have mY : (B5, [Value.bool on1, .slice (some ⟨X5, 0, none⟩) n1 n1, .int .i64 x1, .int .i64 y1]) ∈ L5 := by rw [hL]; simp
  replace m0 := List.mem_cons_of_mem (B5, [Value.bool on1, .slice (some ⟨X5, 0, none⟩) n1 n1, .int .i64 x1, .int .i64 y1]) m0
  rw [← hL] at m0
  replace m1 := List.mem_cons_of_mem (B5, [Value.bool on1, .slice (some ⟨X5, 0, none⟩) n1 n1, .int .i64 x1, .int .i64 y1]) m1
  rw [← hL] at m1
  replace mW := List.mem_cons_of_mem (B5, [Value.bool on1, .slice (some ⟨X5, 0, none⟩) n1 n1, .int .i64 x1, .int .i64 y1]) mW
  rw [← hL] at mW
  replace mX := List.mem_cons_of_mem (B5, [Value.bool on1, .slice (some ⟨X5, 0, none⟩) n1 n1, .int .i64 x1, .int .i64 y1]) mX
  rw [← hL] at mX
  replace pX4 := pX4.next ka
  replace fX4 := free_next ka lX4 fX4
  replace lX4 := Nat.lt_of_lt_of_le lX4 (Below.size ka)
  replace pX5 := pX5.next ka
  replace fX5 := free_next ka lX5 fX5
  replace lX5 := Nat.lt_of_lt_of_le lX5 (Below.size ka)
  replace BW := BW.next ka
  have hXS5 : Hid (B5 = w5.heap.size) := hX
  clear hX hL ka
  have c0 := H.cell mX (i := 0) rfl
  have c1 := H.cell mX (i := 1) rfl
  have c2 := H.cell mX (i := 2) rfl
  have c3 := H.cell mX (i := 3) rfl
  dsimp only at c0 c1 c2 c3
  have d0 := H.cell mY (i := 0) rfl
  have d1 := H.cell mY (i := 1) rfl
  have d2 := H.cell mY (i := 2) rfl
  have d3 := H.cell mY (i := 3) rfl
  dsimp only at d0 d1 d2 d3
  go_wp2_with fail
  rw [← hXS5.out]
  clear hXS5
  have sX := lX5
  refine (absWideI _ _ _ _ _ _ _ _ _ _ _ _ _ _ _ _ _ _ _ _ _ (steps_below hvar (HeldL.below H)) hs0 hs1 pX4 pX5).mono ?_
  rintro e w6 ⟨v, rfl, hv, hb⟩
  rw [hon.out, hLO.out, hHI.out, hnn.out, hjc.out, hjd.out] at hv
  obtain ⟨aG, gG, capG, rfl, BG⟩ := hv
  have qG : 0 < nn → ∀ e ∈ L5, e.1 ≠ gG := fun h0 e he h => by have := H.size he; have := BG.own h0; omega
  have oG : 0 < nn → X5 < gG := fun h0 => Nat.lt_of_lt_of_le sX (BG.own h0)
  have oGW : 0 < nn → gW < gG := fun h0 => Nat.lt_of_lt_of_le (BW.at_.lt h0) (BG.own h0)
  replace BG := BG.base (C := w.heap.size) (Nat.le_trans H.below.size (Nat.le_refl _))
  clear sX
  replace H := H.next hb
  replace pX4 := pX4.next hb
  replace fX4 := free_next hb lX4 fX4
  replace lX4 := Nat.lt_of_lt_of_le lX4 (Below.size hb)
  replace pX5 := pX5.next hb
  replace fX5 := free_next hb lX5 fX5
  replace lX5 := Nat.lt_of_lt_of_le lX5 (Below.size hb)
  replace BW := BW.next hb
  clear hb c0 c1 c2 c3 d0 d1 d2 d3
  have ka : Below w6.heap.size w6 (w6.alloc (.cells #[.bool on, .slice aG nn capG, .int .i64 jc, .int .i64 jd] 31)) := (Below.refl _ _).alloc (Nat.le_refl _) _
  obtain ⟨B6, hX⟩ : ∃ X, X = w6.heap.size := ⟨_, rfl⟩
  replace H := HeldL.newL (vs := [Value.bool on, .slice aG nn capG, .int .i64 jc, .int .i64 jd]) (t := 31) H
  rw [← hX] at H
  obtain ⟨L6, hL⟩ : ∃ L, L = (B6, [Value.bool on, .slice aG nn capG, .int .i64 jc, .int .i64 jd]) :: L5 := ⟨_, rfl⟩
  replace qX4 : ∀ e ∈ L6, e.1 ≠ X4 := by
    rw [hL, hX]
    intro e he
    rcases List.mem_cons.1 he with rfl | he
    · have := lX4; dsimp only; omega
    · exact qX4 e he
  replace qX5 : ∀ e ∈ L6, e.1 ≠ X5 := by
    rw [hL, hX]
    intro e he
    rcases List.mem_cons.1 he with rfl | he
    · have := lX5; dsimp only; omega
    · exact qX5 e he
  replace qG : 0 < nn → ∀ e ∈ L6, e.1 ≠ gG := by
    rw [hL, hX]
    intro h0 e he
    rcases List.mem_cons.1 he with rfl | he
    · have := BG.at_.lt h0; dsimp only; omega
    · exact qG h0 e he
  rw [← hL] at H
  have mG : (B6, [Value.bool on, .slice aG nn capG, .int .i64 jc, .int .i64 jd]) ∈ L6 := by rw [hL]; simp
  replace m0 := List.mem_cons_of_mem (B6, [Value.bool on, .slice aG nn capG, .int .i64 jc, .int .i64 jd]) m0
  rw [← hL] at m0
  replace m1 := List.mem_cons_of_mem (B6, [Value.bool on, .slice aG nn capG, .int .i64 jc, .int .i64 jd]) m1
  rw [← hL] at m1
  replace mW := List.mem_cons_of_mem (B6, [Value.bool on, .slice aG nn capG, .int .i64 jc, .int .i64 jd]) mW
  rw [← hL] at mW
  replace mX := List.mem_cons_of_mem (B6, [Value.bool on, .slice aG nn capG, .int .i64 jc, .int .i64 jd]) mX
  rw [← hL] at mX
  replace mY := List.mem_cons_of_mem (B6, [Value.bool on, .slice aG nn capG, .int .i64 jc, .int .i64 jd]) mY
  rw [← hL] at mY
  replace pX4 := pX4.next ka
  replace fX4 := free_next ka lX4 fX4
  replace lX4 := Nat.lt_of_lt_of_le lX4 (Below.size ka)
  replace pX5 := pX5.next ka
  replace fX5 := free_next ka lX5 fX5
  replace lX5 := Nat.lt_of_lt_of_le lX5 (Below.size ka)
  replace BW := BW.next ka
  replace BG := BG.next ka
  have hXS6 : Hid (B6 = w6.heap.size) := hX
  clear hX hL ka
  have c0 := H.cell mG (i := 0) rfl
  have c1 := H.cell mG (i := 1) rfl
  have c2 := H.cell mG (i := 2) rfl
  have c3 := H.cell mG (i := 3) rfl
  dsimp only at c0 c1 c2 c3
  have d0 := H.cell mW (i := 0) rfl
  have d1 := H.cell mW (i := 1) rfl
  have d2 := H.cell mW (i := 2) rfl
  have d3 := H.cell mW (i := 3) rfl
  dsimp only at d0 d1 d2 d3
  go_wp2_with fail
  rw [← hXS6.out]
  clear hXS6
  refine (eqAbsG _ _ _ _ _ _ _ _ _ _ _ _ _ _ _ hn4 BG.at_ BW.at_).mono ?_
  rintro e w7 ⟨rfl, hb⟩
  replace H := H.next hb
  replace pX4 := pX4.next hb
  replace fX4 := free_next hb lX4 fX4
  replace lX4 := Nat.lt_of_lt_of_le lX4 (Below.size hb)
  replace pX5 := pX5.next hb
  replace fX5 := free_next hb lX5 fX5
  replace lX5 := Nat.lt_of_lt_of_le lX5 (Below.size hb)
  replace BW := BW.next hb
  replace BG := BG.next hb
  clear hb c0 c1 c2 c3 d0 d1 d2 d3
  have hS0 : HX w w7 L6 w7.drew := ⟨HeldL.drew H, (Below.refl _ w7).drew⟩
  clear H
  go_wp2_with fail
  refine region_inv3 [(0, 40), (1, 41), (2, 42), (3, 43), (4, 44)]
    (fun j v W => match j with
      | 0 => Is (.agg #[.bool on0, .slice (some ⟨X4, 0, none⟩) n0 n0, .int .i64 x0, .int .i64 y0]) v
      | 1 => Is (.agg #[.bool on0, .slice a0 n0 cap0, .int .i64 x0, .int .i64 y0]) v
      | 2 => AbsV on0 n0 lo0 hi0 x0 y0 v W
      | 3 => Is (.bool true) v
      | 4 => Is (.bool false) v
      | _ => True)
    (fun _ W => HX w w7 L6 W) TX
    (by kernel_rfl) (by kernel_rfl) (by kernel_rfl) (by kernel_rfl) (by kernel_rfl) rfl hS0 ?_ ?_ ?_
  · intro i j v W W' hji hφ hT
    match j, hji, hφ with
    | 0, _, hφ => exact hφ
    | 1, _, hφ => exact hφ
    | 2, _, hφ => exact hφ.next hT
    | 3, _, hφ => exact hφ
    | 4, _, hφ => exact hφ
    | _ + 5, _, _ => trivial
  · intro i L vals W hi' hφ hS hL hd
    have hi2 : i < 5 := hi'
    clear hi'
    rcases (show i = 0 ∨ i = 1 ∨ i = 2 ∨ i = 3 ∨ i = 4 by omega) with rfl | rfl | rfl | rfl | rfl
    · have c0 := hS.cell mX (i := 0) rfl
      have c1 := hS.cell mX (i := 1) rfl
      have c2 := hS.cell mX (i := 2) rfl
      have c3 := hS.cell mX (i := 3) rfl
      dsimp only at c0 c1 c2 c3
      refine wpAt_of rfl rfl ?_
      simp only [frOf, Act.put]
      go_wp2_with fail
      first | exact ⟨trivial, rfl, Below.refl _ _, hS⟩ | exact ⟨rfl, Below.refl _ _, hS⟩
    · have c0 := hS.cell m0 (i := 0) rfl
      have c1 := hS.cell m0 (i := 1) rfl
      have c2 := hS.cell m0 (i := 2) rfl
      have c3 := hS.cell m0 (i := 3) rfl
      dsimp only at c0 c1 c2 c3
      refine wpAt_of rfl rfl ?_
      simp only [frOf, Act.put]
      go_wp2_with fail
      first | exact ⟨trivial, rfl, Below.refl _ _, hS⟩ | exact ⟨rfl, Below.refl _ _, hS⟩
    · have k1 : vals 1 = .agg #[.bool on0, .slice a0 n0 cap0, .int .i64 x0, .int .i64 y0] := hφ 1 (hd 1 (by decide))
      refine wpAt_of rfl rfl ?_
      simp only [frOf, Act.put]
      go_wp2_with fail
      refine (toAbs _ _ _ _ _ _ _ _ _ _ _ hs0 (r0.next (HX.below hS))).mono ?_
      rintro e W' ⟨gN, rfl, _, lgN, pgN, _, hb⟩
      go_wp2_with fail
      first | exact ⟨trivial, ⟨_, rfl, lgN, pgN⟩, hb, HX.next hb hS⟩ | exact ⟨⟨_, rfl, lgN, pgN⟩, hb, HX.next hb hS⟩
    · have k0 : vals 0 = .agg #[.bool on0, .slice (some ⟨X4, 0, none⟩) n0 n0, .int .i64 x0, .int .i64 y0] := hφ 0 (hd 0 (by decide))
      obtain ⟨g2, k2, l2, q2⟩ : AbsV on0 n0 lo0 hi0 x0 y0 (vals 2) W := hφ 2 (hd 2 (by decide))
      refine wpAt_of rfl rfl ?_
      simp only [frOf, Act.put]
      go_wp2_with fail
      refine (eqAbsG _ _ _ _ _ _ _ _ _ _ _ _ _ _ _ hs0 (pX4.next (HX.beh hS)) q2).mono ?_
      rintro e W' ⟨rfl, hb⟩
      go_wp2_with fail
      first | exact ⟨trivial, rfl, hb, HX.next hb hS⟩ | exact ⟨rfl, hb, HX.next hb hS⟩
    · have k3 : vals 3 = .bool true := hφ 3 (hd 3 (by decide))
      refine wpAt_of rfl rfl ?_
      simp only [frOf, Act.put]
      go_wp2_with fail
      first | exact ⟨trivial, rfl, Below.refl _ _, hS⟩ | exact ⟨rfl, Below.refl _ _, hS⟩
  intro L vals w8 hall hφ hS
  have k0 : vals 0 = .agg #[.bool on0, .slice (some ⟨X4, 0, none⟩) n0 n0, .int .i64 x0, .int .i64 y0] := hφ 0 (by decide)
  have k1 : vals 1 = .agg #[.bool on0, .slice a0 n0 cap0, .int .i64 x0, .int .i64 y0] := hφ 1 (by decide)
  have k3 : vals 3 = .bool true := hφ 3 (by decide)
  have k4 : vals 4 = .bool false := hφ 4 (by decide)
  simp only [frOf, Act.put, List.setIfInBounds_toArray, List.set_cons_succ, List.set_cons_zero, k0, k1, k3, k4]
  clear k0 k1 k3 k4 hall hφ hS0
  have H := hS.1
  have hb := hS.2
  clear hS
  replace pX4 := pX4.next hb
  replace fX4 := free_next hb lX4 fX4
  replace lX4 := Nat.lt_of_lt_of_le lX4 (Below.size hb)
  replace pX5 := pX5.next hb
  replace fX5 := free_next hb lX5 fX5
  replace lX5 := Nat.lt_of_lt_of_le lX5 (Below.size hb)
  replace BW := BW.next hb
  replace BG := BG.next hb
  clear hb
  have hS0 : HX w w8 L6 w8.drew := ⟨HeldL.drew H, (Below.refl _ w8).drew⟩
  clear H
  go_wp2_with fail
  refine region_inv3 [(0, 45), (1, 46), (2, 47), (3, 48), (4, 49)]
    (fun j v W => match j with
      | 0 => Is (.agg #[.bool on1, .slice (some ⟨X5, 0, none⟩) n1 n1, .int .i64 x1, .int .i64 y1]) v
      | 1 => Is (.agg #[.bool on1, .slice a1 n1 cap1, .int .i64 x1, .int .i64 y1]) v
      | 2 => AbsV on1 n1 lo1 hi1 x1 y1 v W
      | 3 => Is (.bool true) v
      | 4 => Is (.bool false) v
      | _ => True)
    (fun _ W => HX w w8 L6 W) TX
    (by kernel_rfl) (by kernel_rfl) (by kernel_rfl) (by kernel_rfl) (by kernel_rfl) rfl hS0 ?_ ?_ ?_
  · intro i j v W W' hji hφ hT
    match j, hji, hφ with
    | 0, _, hφ => exact hφ
    | 1, _, hφ => exact hφ
    | 2, _, hφ => exact hφ.next hT
    | 3, _, hφ => exact hφ
    | 4, _, hφ => exact hφ
    | _ + 5, _, _ => trivial
  · intro i L vals W hi' hφ hS hL hd
    have hi2 : i < 5 := hi'
    clear hi'
    rcases (show i = 0 ∨ i = 1 ∨ i = 2 ∨ i = 3 ∨ i = 4 by omega) with rfl | rfl | rfl | rfl | rfl
    · have c0 := hS.cell mY (i := 0) rfl
      have c1 := hS.cell mY (i := 1) rfl
      have c2 := hS.cell mY (i := 2) rfl
      have c3 := hS.cell mY (i := 3) rfl
      dsimp only at c0 c1 c2 c3
      refine wpAt_of rfl rfl ?_
      simp only [frOf, Act.put]
      go_wp2_with fail
      first | exact ⟨trivial, rfl, Below.refl _ _, hS⟩ | exact ⟨rfl, Below.refl _ _, hS⟩
    · have c0 := hS.cell m1 (i := 0) rfl
      have c1 := hS.cell m1 (i := 1) rfl
      have c2 := hS.cell m1 (i := 2) rfl
      have c3 := hS.cell m1 (i := 3) rfl
      dsimp only at c0 c1 c2 c3
      refine wpAt_of rfl rfl ?_
      simp only [frOf, Act.put]
      go_wp2_with fail
      first | exact ⟨trivial, rfl, Below.refl _ _, hS⟩ | exact ⟨rfl, Below.refl _ _, hS⟩
    · have k1 : vals 1 = .agg #[.bool on1, .slice a1 n1 cap1, .int .i64 x1, .int .i64 y1] := hφ 1 (hd 1 (by decide))
      refine wpAt_of rfl rfl ?_
      simp only [frOf, Act.put]
      go_wp2_with fail
      refine (toAbs _ _ _ _ _ _ _ _ _ _ _ hs1 (r1.next (HX.below hS))).mono ?_
      rintro e W' ⟨gN, rfl, _, lgN, pgN, _, hb⟩
      go_wp2_with fail
      first | exact ⟨trivial, ⟨_, rfl, lgN, pgN⟩, hb, HX.next hb hS⟩ | exact ⟨⟨_, rfl, lgN, pgN⟩, hb, HX.next hb hS⟩
    · have k0 : vals 0 = .agg #[.bool on1, .slice (some ⟨X5, 0, none⟩) n1 n1, .int .i64 x1, .int .i64 y1] := hφ 0 (hd 0 (by decide))
      obtain ⟨g2, k2, l2, q2⟩ : AbsV on1 n1 lo1 hi1 x1 y1 (vals 2) W := hφ 2 (hd 2 (by decide))
      refine wpAt_of rfl rfl ?_
      simp only [frOf, Act.put]
      go_wp2_with fail
      refine (eqAbsG _ _ _ _ _ _ _ _ _ _ _ _ _ _ _ hs1 (pX5.next (HX.beh hS)) q2).mono ?_
      rintro e W' ⟨rfl, hb⟩
      go_wp2_with fail
      first | exact ⟨trivial, rfl, hb, HX.next hb hS⟩ | exact ⟨rfl, hb, HX.next hb hS⟩
    · have k3 : vals 3 = .bool true := hφ 3 (hd 3 (by decide))
      refine wpAt_of rfl rfl ?_
      simp only [frOf, Act.put]
      go_wp2_with fail
      first | exact ⟨trivial, rfl, Below.refl _ _, hS⟩ | exact ⟨rfl, Below.refl _ _, hS⟩
  intro L vals w9 hall hφ hS
  have k0 : vals 0 = .agg #[.bool on1, .slice (some ⟨X5, 0, none⟩) n1 n1, .int .i64 x1, .int .i64 y1] := hφ 0 (by decide)
  have k1 : vals 1 = .agg #[.bool on1, .slice a1 n1 cap1, .int .i64 x1, .int .i64 y1] := hφ 1 (by decide)
  have k3 : vals 3 = .bool true := hφ 3 (by decide)
  have k4 : vals 4 = .bool false := hφ 4 (by decide)
  simp only [frOf, Act.put, List.setIfInBounds_toArray, List.set_cons_succ, List.set_cons_zero, k0, k1, k3, k4]
  clear k0 k1 k3 k4 hall hφ hS0
  have H := hS.1
  have hb := hS.2
  clear hS
  replace pX4 := pX4.next hb
  replace fX4 := free_next hb lX4 fX4
  replace lX4 := Nat.lt_of_lt_of_le lX4 (Below.size hb)
  replace pX5 := pX5.next hb
  replace fX5 := free_next hb lX5 fX5
  replace lX5 := Nat.lt_of_lt_of_le lX5 (Below.size hb)
  replace BW := BW.next hb
  replace BG := BG.next hb
  clear hb
  have c0 := H.cell mX (i := 0) rfl
  have c1 := H.cell mX (i := 1) rfl
  have c2 := H.cell mX (i := 2) rfl
  have c3 := H.cell mX (i := 3) rfl
  dsimp only at c0 c1 c2 c3
  go_wp2_with fail
  have PX : BndsIs w.heap.size n0 lo0 hi0 (some ⟨X4, 0, none⟩) X4 w9 := ⟨fun _ => oWX4, fun _ => fX4, pX4⟩
  have PY : BndsIs w.heap.size n1 lo1 hi1 (some ⟨X5, 0, none⟩) X5 w9 := ⟨fun _ => oWX5, fun _ => fX5, pX5⟩
  have PP := pen2 (Nat.ne_of_lt oXY) PX PY
  refine (markAbsS (ad2 X4 X5 (n0 * 2)) (n0 * 2 + n1 * 2) w.heap.size 0 _ _ X4 n0 _ _ _ 1 _ rfl (by omega) (by omega) (fun _ => rfl) (fun j hj => by unfold ad2; rw [Nat.zero_add, if_pos hj]) H.below.size PP (fun j hj => by omega)).mono ?_
  rintro e w10 ⟨rfl, hM, hP, hWr⟩
  replace H := H.kept2 hWr qX4 qX5
  replace BW := BW.kept2 hWr (fun h0 h => by have := oGX4 h0; omega) (fun h0 h => by have := oGX5 h0; omega)
  replace BG := BG.kept2 hWr (fun h0 h => by have := oG h0; omega) (fun h0 h => by have := oG h0; omega)
  clear hWr PX PY PP pX4 pX5 lX4 lX5 fX4 fX5 c0 c1 c2 c3
  have c0 := H.cell mY (i := 0) rfl
  have c1 := H.cell mY (i := 1) rfl
  have c2 := H.cell mY (i := 2) rfl
  have c3 := H.cell mY (i := 3) rfl
  dsimp only at c0 c1 c2 c3
  go_wp2_with fail
  refine (markAbsS (ad2 X4 X5 (n0 * 2)) (n0 * 2 + n1 * 2) w.heap.size (0 + n0 * 2) _ _ X5 n1 _ _ _ _ _ (by push_cast; omega) (by omega) (by omega) (fun _ => rfl) (fun j hj => by unfold ad2; rw [if_neg (by omega)]; congr 1; omega) H.below.size hP hM).mono ?_
  rintro e w11 ⟨rfl, _, _, hWr⟩
  replace H := H.kept2 hWr qX4 qX5
  replace BW := BW.kept2 hWr (fun h0 h => by have := oGX4 h0; omega) (fun h0 h => by have := oGX5 h0; omega)
  replace BG := BG.kept2 hWr (fun h0 h => by have := oG h0; omega) (fun h0 h => by have := oG h0; omega)
  have hk0 : ¬ (((0 + n0 * 2 : Nat) : Int) + (n1 : Int) * 2 + 1) < 0 := by omega
  clear hWr hM hP qX4 qX5 oWX4 oWX5 oGX4 oGX5 oXY oG c0 c1 c2 c3
  have c0 := H.cell mG (i := 0) rfl
  have c1 := H.cell mG (i := 1) rfl
  have c2 := H.cell mG (i := 2) rfl
  have c3 := H.cell mG (i := 3) rfl
  dsimp only at c0 c1 c2 c3
  have d0 := H.cell mW (i := 0) rfl
  have d1 := H.cell mW (i := 1) rfl
  have d2 := H.cell mW (i := 2) rfl
  have d3 := H.cell mW (i := 3) rfl
  dsimp only at d0 d1 d2 d3
  go_wp2_with fail
  refine (eqAbsG _ _ _ _ _ _ _ _ _ _ _ _ _ _ _ hn4 BG.at_ BW.at_).mono ?_
  rintro e w12 ⟨rfl, hb⟩
  replace H := H.next hb
  replace BW := BW.next hb
  replace BG := BG.next hb
  clear hb c0 c1 c2 c3 d0 d1 d2 d3
  have c0 := H.cell mG (i := 0) rfl
  have c1 := H.cell mG (i := 1) rfl
  have c2 := H.cell mG (i := 2) rfl
  have c3 := H.cell mG (i := 3) rfl
  dsimp only at c0 c1 c2 c3
  go_wp2_with fail
  refine (markAbsP _ _ _ _ _ LO HI _ _ w.heap.size _ hn4 H.below.size BG.pen BG.at_.at_).mono ?_
  rintro e w13 ⟨rfl, hM, hP, hWr⟩
  have hz : 0 < nn → gG < w13.heap.size := fun h0 => Nat.lt_of_lt_of_le (BG.at_.lt h0) hWr.size
  have hat := BG.at_.at_
  have hH : HeldL w L6 w13 := by
    rcases Nat.eq_zero_or_pos nn with h0 | h0
    · subst h0
      exact HeldL.keptAll H hWr.below ⟨hWr.size, fun p hp => ⟨hWr.other p hp (fun j hj => by omega), hWr.free p hp⟩⟩
    · exact H.kept (i := 0) hWr.below hWr.trn (qG h0)
  replace BW := BW.kept (i := 0) hWr.trn (fun h0 h => by have := oGW h0; omega)
  clear H
  have H := hH
  have hm0 : ¬ ((nn : Int) * 2 + 1) < 0 := by omega
  clear hH hWr BG qG oGW hk0 c0 c1 c2 c3
  have c0 := H.cell mG (i := 0) rfl
  have c1 := H.cell mG (i := 1) rfl
  have c2 := H.cell mG (i := 2) rfl
  have c3 := H.cell mG (i := 3) rfl
  dsimp only at c0 c1 c2 c3
  go_wp2_with fail
  refine (heldAbsP _ _ gG _ _ _ _ _ hn4 (fun h0 => ⟨hat h0, hz h0⟩) hM).mono ?_
  rintro e w14 ⟨rfl, hb⟩
  replace H := H.next hb
  replace hM := hM.below hP (Nat.le_refl _) hb
  replace hz : 0 < nn → gG < _ := fun h0 => Nat.lt_of_lt_of_le (hz h0) (Below.size hb)
  replace hP := hP.below hb
  replace BW := BW.next hb
  clear hb c0 c1 c2 c3
  have hS0 := TwoS.start (A := AbsV on0 n0 lo0 hi0 x0 y0) (B := AbsV on1 n1 lo1 hi1 x1 y1) (on := on) (n := nn) (lo := LO) (hi := HI) (c := jc) (d := jd) H
  have hNw := HeldL.below H
  have hN1 : ∀ e ∈ L6, e.1 < w14.heap.size := fun e he => H.size he
  clear H
  go_wp2_with fail
  refine region_inv4 [(0, 75), (1, 76), (2, 77), (3, 78), (4, 79), (5, 13)]
    (fun j v => match j with
      | 0 => Is (.agg #[.bool on0, .slice a0 n0 cap0, .int .i64 x0, .int .i64 y0]) v
      | 2 => Is (.agg #[.bool on1, .slice a1 n1 cap1, .int .i64 x1, .int .i64 y1]) v
      | _ => True)
    (fun L vals W => TwoS w w14 L6 (AbsV on0 n0 lo0 hi0 x0 y0) (AbsV on1 n1 lo1 hi1 x1 y1) on nn LO HI jc jd L vals W)
    (by kernel_rfl) (by kernel_rfl) (by kernel_rfl) (by kernel_rfl) (by kernel_rfl) rfl hS0 ?_ ?_
  · intro i L vals W hi' hφ hS hL hd
    have hi2 : i < 7 := hi'
    clear hi' hS0
    rcases (show i = 0 ∨ i = 1 ∨ i = 2 ∨ i = 3 ∨ i = 4 ∨ i = 5 ∨ i = 6 by omega) with rfl | rfl | rfl | rfl | rfl | rfl | rfl
    · have c0 := hS.hx.cell m0 (i := 0) rfl
      have c1 := hS.hx.cell m0 (i := 1) rfl
      have c2 := hS.hx.cell m0 (i := 2) rfl
      have c3 := hS.hx.cell m0 (i := 3) rfl
      dsimp only at c0 c1 c2 c3
      refine wpAt_of rfl rfl ?_
      simp only [frOf, Act.put]
      go_wp2_with fail
      first | exact ⟨trivial, rfl, hS.pure (by decide) (by decide) (by decide) (by decide) (by decide)⟩ | exact ⟨rfl, hS.pure (by decide) (by decide) (by decide) (by decide) (by decide)⟩
    · have k0 : vals 0 = .agg #[.bool on0, .slice a0 n0 cap0, .int .i64 x0, .int .i64 y0] := hφ 0 (hd 0 (by decide))
      refine wpAt_of rfl rfl ?_
      simp only [frOf, Act.put]
      go_wp2_with fail
      refine (toAbs _ _ _ _ _ _ _ _ _ _ _ hs0 (r0.next hS.hx.below)).mono ?_
      rintro e W' ⟨gN, rfl, _, lgN, pgN, _, hb⟩
      go_wp2_with fail
      first | exact ⟨trivial, trivial, (hS.next nA nB hb).set1 ⟨_, rfl, lgN, pgN⟩⟩ | exact ⟨trivial, (hS.next nA nB hb).set1 ⟨_, rfl, lgN, pgN⟩⟩ | exact (hS.next nA nB hb).set1 ⟨_, rfl, lgN, pgN⟩
    · have c0 := hS.hx.cell m1 (i := 0) rfl
      have c1 := hS.hx.cell m1 (i := 1) rfl
      have c2 := hS.hx.cell m1 (i := 2) rfl
      have c3 := hS.hx.cell m1 (i := 3) rfl
      dsimp only at c0 c1 c2 c3
      refine wpAt_of rfl rfl ?_
      simp only [frOf, Act.put]
      go_wp2_with fail
      first | exact ⟨trivial, rfl, hS.pure (by decide) (by decide) (by decide) (by decide) (by decide)⟩ | exact ⟨rfl, hS.pure (by decide) (by decide) (by decide) (by decide) (by decide)⟩
    · have k2 : vals 2 = .agg #[.bool on1, .slice a1 n1 cap1, .int .i64 x1, .int .i64 y1] := hφ 2 (hd 2 (by decide))
      refine wpAt_of rfl rfl ?_
      simp only [frOf, Act.put]
      go_wp2_with fail
      refine (toAbs _ _ _ _ _ _ _ _ _ _ _ hs1 (r1.next hS.hx.below)).mono ?_
      rintro e W' ⟨gN, rfl, _, lgN, pgN, _, hb⟩
      go_wp2_with fail
      first | exact ⟨trivial, trivial, (hS.next nA nB hb).set3 ⟨_, rfl, lgN, pgN⟩⟩ | exact ⟨trivial, (hS.next nA nB hb).set3 ⟨_, rfl, lgN, pgN⟩⟩ | exact (hS.next nA nB hb).set3 ⟨_, rfl, lgN, pgN⟩
    · obtain ⟨g1, k1, l1, q1⟩ := hS.v1 (hd 1 (by decide)) (hS.no6 hL)
      obtain ⟨g3, k3, l3, q3⟩ := hS.v3 (hd 3 (by decide)) (hS.no6 hL)
      refine wpAt_of rfl rfl ?_
      simp only [frOf, Act.put]
      go_wp2_with fail
      refine (absWideI _ _ _ _ _ _ _ _ _ _ _ _ _ _ _ _ _ _ _ _ _ (steps_below hvar hS.hx.below) hs0 hs1 q1 q3).mono ?_
      rintro e W' ⟨v, rfl, hv, hb⟩
      rw [hon.out, hLO.out, hHI.out, hnn.out, hjc.out, hjd.out] at hv
      go_wp2_with fail
      first | exact ⟨trivial, trivial, hS.set4 nA nB hb hL hv⟩ | exact ⟨trivial, hS.set4 nA nB hb hL hv⟩ | exact hS.set4 nA nB hb hL hv
    · refine wpAt_of rfl rfl ?_
      simp only [frOf, Act.put]
      go_wp2_with fail
      first | exact ⟨trivial, trivial, hS.made nA nB hL rfl⟩ | exact ⟨trivial, hS.made nA nB hL rfl⟩ | exact hS.made nA nB hL rfl
    · obtain ⟨aq, gq, cq, k4, hB, hne⟩ := hS.ans (hd 4 (by decide))
      obtain ⟨bq, k5, kb1, kb2, kbf, kcs, _⟩ := hS.box (hd 5 (by decide))
      obtain ⟨u0, c0⟩ := kcs 0 (by omega)
      obtain ⟨u1, c1⟩ := kcs 1 (by omega)
      obtain ⟨u2, c2⟩ := kcs 2 (by omega)
      obtain ⟨u3, c3⟩ := kcs 3 (by omega)
      clear kcs
      refine wpAt_none rfl rfl ?_
      simp only [frOf, Act.put]
      go_wp2_with fail
      first | exact ⟨trivial, trivial, hS.sto hNw hN1 (hd 5 (by decide)) (hd 4 (by decide)) k4 k5⟩ | exact ⟨trivial, hS.sto hNw hN1 (hd 5 (by decide)) (hd 4 (by decide)) k4 k5⟩ | exact hS.sto hNw hN1 (hd 5 (by decide)) (hd 4 (by decide)) k4 k5
  intro L vals w15 hall hφ hS
  have k0 : vals 0 = .agg #[.bool on0, .slice a0 n0 cap0, .int .i64 x0, .int .i64 y0] := hφ 0 (by decide)
  have k2 : vals 2 = .agg #[.bool on1, .slice a1 n1 cap1, .int .i64 x1, .int .i64 y1] := hφ 2 (by decide)
  obtain ⟨aH, gH, capH, k4, BH, hne⟩ := hS.ans (hall 4 (by decide))
  obtain ⟨bH, k5, kb1, kb2, kbf, _, kcs⟩ := hS.box (hall 5 (by decide))
  replace kcs := kcs (hall 6 (by decide)) _ _ k4
  replace hne : 0 < nn → gH ≠ bH := fun h0 e => hne (hall 5 (by decide)) h0 (by rw [k5, e])
  simp only [frOf, Act.put, List.setIfInBounds_toArray, List.set_cons_succ, List.set_cons_zero, k0, k2, k4, k5]
  have hb := hS.hx.2
  have H := HeldL.withNewL hS.hx.1 (Nat.le_trans hNw.size kb1) kb2 kbf kcs
  clear k0 k2 k4 k5 hall hφ hS0 hS kbf kcs
  replace hM := hM.below hP (Nat.le_refl _) hb
  replace hz : 0 < nn → gG < _ := fun h0 => Nat.lt_of_lt_of_le (hz h0) (Below.size hb)
  replace hP := hP.below hb
  replace BW := BW.next hb
  obtain ⟨L15, hL⟩ : ∃ L, L = (bH, [Value.bool on, .slice aH nn capH, .int .i64 jc, .int .i64 jd]) :: L6 := ⟨_, rfl⟩
  rw [← hL] at H
  have mH : (bH, [Value.bool on, .slice aH nn capH, .int .i64 jc, .int .i64 jd]) ∈ L15 := by rw [hL]; simp
  replace m0 := List.mem_cons_of_mem (bH, [Value.bool on, .slice aH nn capH, .int .i64 jc, .int .i64 jd]) m0
  rw [← hL] at m0
  replace m1 := List.mem_cons_of_mem (bH, [Value.bool on, .slice aH nn capH, .int .i64 jc, .int .i64 jd]) m1
  rw [← hL] at m1
  replace mW := List.mem_cons_of_mem (bH, [Value.bool on, .slice aH nn capH, .int .i64 jc, .int .i64 jd]) mW
  rw [← hL] at mW
  replace mX := List.mem_cons_of_mem (bH, [Value.bool on, .slice aH nn capH, .int .i64 jc, .int .i64 jd]) mX
  rw [← hL] at mX
  replace mY := List.mem_cons_of_mem (bH, [Value.bool on, .slice aH nn capH, .int .i64 jc, .int .i64 jd]) mY
  rw [← hL] at mY
  replace mG := List.mem_cons_of_mem (bH, [Value.bool on, .slice aH nn capH, .int .i64 jc, .int .i64 jd]) mG
  rw [← hL] at mG
  replace BH := BH.base (C := w.heap.size) hNw.size
  clear hL hNw hN1 kb1 kb2 hne hb
  have c0 := H.cell mH (i := 0) rfl
  have c1 := H.cell mH (i := 1) rfl
  have c2 := H.cell mH (i := 2) rfl
  have c3 := H.cell mH (i := 3) rfl
  dsimp only at c0 c1 c2 c3
  have d0 := H.cell mW (i := 0) rfl
  have d1 := H.cell mW (i := 1) rfl
  have d2 := H.cell mW (i := 2) rfl
  have d3 := H.cell mW (i := 3) rfl
  dsimp only at d0 d1 d2 d3
  go_wp2_with fail
  refine (eqAbsG _ _ _ _ _ _ _ _ _ _ _ _ _ _ _ hn4 BH.at_ BW.at_).mono ?_
  rintro e w16 ⟨rfl, hb⟩
  replace H := H.next hb
  replace hM := hM.below hP (Nat.le_refl _) hb
  replace hz : 0 < nn → gG < _ := fun h0 => Nat.lt_of_lt_of_le (hz h0) (Below.size hb)
  replace hP := hP.below hb
  replace BW := BW.next hb
  replace BH := BH.next hb
  clear hb c0 c1 c2 c3 d0 d1 d2 d3
  have c0 := H.cell mG (i := 0) rfl
  have c1 := H.cell mG (i := 1) rfl
  have c2 := H.cell mG (i := 2) rfl
  have c3 := H.cell mG (i := 3) rfl
  dsimp only at c0 c1 c2 c3
  go_wp2_with fail
  refine (heldAbsP _ _ gG _ _ _ _ _ hn4 (fun h0 => ⟨hat h0, hz h0⟩) hM).mono ?_
  rintro e w17 ⟨rfl, hb⟩
  replace H := H.next hb
  replace hM := hM.below hP (Nat.le_refl _) hb
  replace hz : 0 < nn → gG < _ := fun h0 => Nat.lt_of_lt_of_le (hz h0) (Below.size hb)
  replace hP := hP.below hb
  replace BW := BW.next hb
  replace BH := BH.next hb
  clear hb c0 c1 c2 c3
  go_wp2_with fail
  go_ret
  exact ⟨rfl, H.below⟩

set_option maxRecDepth 100000 in
theorem contract (H : Type) (enc : TypeId × Value → H) (W : World) (base : Nat) (args : Array Value) (ds gs : List (DataW H)) (before : List MemPlace)
    (hval : ∀ (j : Nat) t v, Tryd.f3.params[j]? = some t → args[j]? = some v → Value.okWide Tryd.prog W .any base t v)
    (hW : DataW.Whole enc Tryd.prog Tryd.f3.params.toList Rows.fnExactAbsWideSpec.vars false W args.toList ds gs before) (hL : laidMetH Tryd.prog Rows.fnExactAbsWideRow.laid W) :
    Calls Tryd.prog 3 args W fun e W' => ∃ v, e = .returned v ∧ Rows.fnExactAbsWideSpec.post enc Tryd.prog Tryd.f3 false true false false W args v W' := by
  have hW' := hW
  obtain ⟨p, q, hA0, hV, rfl, hfz, hnd⟩ := hW
  have hA : DataW.TrodAll enc Tryd.prog W 0 (fun _ => true) true Tryd.f3.params.toList args.toList ds p := hA0
  rw [Tryd.params3] at hA hval
  obtain ⟨v0, vs0, d0, ds0, p0, q0, hargs, rfl, rfl, h0, r0'⟩ := trodAll_cons hA
  obtain ⟨v1, vs1, d1, ds1, p1, q1, rfl, rfl, rfl, h1, r1'⟩ := trodAll_cons r0'
  obtain ⟨rfl, rfl, rfl⟩ := trodAll_nil r1'
  obtain rfl : args = #[v0, v1] := by cases args; simp_all
  obtain ⟨gv, tv, csv, fuelv, dv, pv, rfl, hgv, htv, hvarv, hdv, rfl⟩ := trodVars_one hV
  obtain rfl := Option.some.inj (gVar.symm.trans hgv)
  obtain rfl := Option.some.inj (gVarType.symm.trans htv)
  have ltv : ∀ x ∈ pv, x.block < W.heap.size := DataW.trod_lt fuelv _ _ _ hdv
  have k0 := h0
  have lt0 : ∀ x ∈ p0, x.block < W.heap.size := by obtain ⟨m, hm⟩ := k0; exact DataW.trod_lt m _ _ _ hm
  obtain ⟨on0, x0, y0, a0, n0, cap0, rfl, hn0, r0⟩ := open_abs (hval 0 26 v0 rfl rfl) h0
  have k1 := h1
  have lt1 : ∀ x ∈ p1, x.block < W.heap.size := by obtain ⟨m, hm⟩ := k1; exact DataW.trod_lt m _ _ _ hm
  obtain ⟨on1, x1, y1, a1, n1, cap1, rfl, hn1, r1⟩ := open_abs (hval 1 26 v1 rfl rfl) h1
  clear hA0
  refine (walk on0 x0 y0 a0 _ _ n0 cap0 _ _ hn0 on1 x1 y1 a1 _ _ n1 cap1 _ _ hn1 W r0 r1 (varTable hL)).mono fun e W' ⟨he, bel⟩ => ?_
  subst he
  obtain ⟨fq, hq⟩ := Below.trod (v := .agg csv) laidOut (by kernel_rfl) (of_decide_eq_true (by kernel_rfl)) ⟨fuelv, hdv⟩ bel ltv
  exact ⟨_, rfl, _, _, _, [], _, _, hW', trodAll_mk1 (shut_bool Tryd.underlying4 _), (trodAll_cons_mk (Below.trod laidOut (by kernel_rfl) (of_decide_eq_true (by kernel_rfl)) k0 bel lt0) (trodAll_cons_mk (Below.trod laidOut (by kernel_rfl) (of_decide_eq_true (by kernel_rfl)) k1 bel lt1) trodAll_mk0)), trodVars_mk1 gVar gVarType (varStays hvarv bel) hq, bel.frame _, fun h => by cases h⟩

def extra : Array Obj := #[]
def setRow (cs : Array Value) : Obj → Obj
  | .cells _ t frozen => .cells cs t frozen
  | o => o
def tabs (low : Nat) (h : Array Obj) : Array Obj :=
  (h.modify 0 (setRow #[.int .i64 (-32768), .int .i64 (-1000), .int .i64 (-100), .int .i64 (-10), .int .i64 (-1), .int .i64 0, .int .i64 1, .int .i64 10, .int .i64 100, .int .i64 1000, .int .i64 32767]))
theorem laid_met (os : Os) : laidMet Tryd.prog Rows.fnExactAbsWideRow.laid (({ World.holding Tryd.prog os ⟨extra, #[], []⟩ with heap := tabs (World.holding Tryd.prog default ⟨#[], #[], []⟩).heap.size (World.holding Tryd.prog os ⟨extra, #[], []⟩).heap }).forCall (fun _ _ => 0) ⟨#[], #[.agg #[.bool false, .slice none 0 0, .int .i64 0, .int .i64 0], .agg #[.bool false, .slice none 0 0, .int .i64 0, .int .i64 0]], []⟩).memory :=
  laidMet_of_run' 8 (by kernel_rfl) (by kernel_rfl)
theorem reads (os : Os) {H : Type} (enc : TypeId × Value → H) : ∃ places, DataW.whole enc Tryd.prog (({ World.holding Tryd.prog os ⟨extra, #[], []⟩ with heap := tabs (World.holding Tryd.prog default ⟨#[], #[], []⟩).heap.size (World.holding Tryd.prog os ⟨extra, #[], []⟩).heap }).forCall (fun _ _ => 0) ⟨#[], #[.agg #[.bool false, .slice none 0 0, .int .i64 0, .int .i64 0], .agg #[.bool false, .slice none 0 0, .int .i64 0, .int .i64 0]], []⟩).memory Tryd.f3.params.toList Rows.fnExactAbsWideSpec.vars false (#[.agg #[.bool false, .slice none 0 0, .int .i64 0, .int .i64 0], .agg #[.bool false, .slice none 0 0, .int .i64 0, .int .i64 0]] : Array Value).toList 8 = some ([.agg [.lit (.bool false), .nil, .agg [.lit (.int .i64 0), .lit (.int .i64 0)]], .agg [.lit (.bool false), .nil, .agg [.lit (.int .i64 0), .lit (.int .i64 0)]]], [Rows.laid_loop_example_outwork_impl_wideSteps], places) :=
  ⟨MemPlace.row ⟨0, 0, none⟩ 11, by kernel_rfl⟩

set_option maxRecDepth 100000 in
theorem lifted (os : Os) (started : os.Started) (H : Type) (enc : TypeId × Value → H) (F : Stop.Interp) :
    ReturnsInHanded {} Tryd.checked os 3 .any ((OpenSpec.ofChange Rows.fnExactAbsWideSpec).preRow enc Tryd.prog Tryd.f3 Rows.fnExactAbsWideRow.domain false Rows.fnExactAbsWideRow.laid) (((OpenSpec.ofChange Rows.fnExactAbsWideSpec).at F).post enc Tryd.prog Tryd.f3 false true false false) := by
  obtain ⟨places, hx⟩ := reads os enc
  refine returnsInHanded_of_row (C := Tryd.checked) (s := OpenSpec.ofChange Rows.fnExactAbsWideSpec) own started (by kernel_rfl) Tryd.func3
    (witness_row_at (enc := enc) (C := Tryd.checked) false ({ World.holding Tryd.prog os ⟨extra, #[], []⟩ with heap := tabs (World.holding Tryd.prog default ⟨#[], #[], []⟩).heap.size (World.holding Tryd.prog os ⟨extra, #[], []⟩).heap }) #[.agg #[.bool false, .slice none 0 0, .int .i64 0, .int .i64 0], .agg #[.bool false, .slice none 0 0, .int .i64 0, .int .i64 0]] rfl (by kernel_rfl) (by kernel_rfl) (by kernel_rfl)
      (OpenSpec.preRow_of_cond 8 hx (by kernel_rfl) (fun k hk => by cases hk) (by kernel_rfl) (laid_met os))) ?_
  intro W base args ds gs before hval hW _ _ _ hL _ _
  exact contract H enc W base args ds gs before hval hW hL

theorem said : Rows.FnExactAbsWideSaid :=
  OpenClaim.holds_of_cond 3 Tryd.f3 rfl rfl rfl rfl rfl rfl rfl ⟨rfl, rfl, rfl, rfl, rfl⟩ rfl rfl rfl rfl rfl (by kernel_rfl) Tryd.func3 (by kernel_rfl)
    (of_decide_eq_true (by kernel_rfl)) (by unfold Func.isWrapper; first | (rw [if_pos (by decide +kernel)]; kernel_rfl) | (rw [if_neg (by decide +kernel)]; exact ⟨rfl, rfl⟩))
    (fun os started H enc _ F => by rw [OpenClaim.pre_eq_preRow]; exact lifted os started H enc F)

theorem plain (f : FuncId) (fn : Func) (hf : Tryd.pinned.checked.prog.funcNamed "loop.example/outwork/laws.FnExactAbsWide" = some f) (hfn : Tryd.pinned.checked.prog.funcs[f]? = some fn) :
    false = Tryd.pinned.checked.prog.looks [] ∧ ∀ (j : Nat) t, fn.params[j]? = some t → Tryd.pinned.checked.prog.wantsStandIn t = false := by
  obtain rfl : f = 3 := Option.some.inj ((show Tryd.prog.funcNamed "loop.example/outwork/laws.FnExactAbsWide" = some 3 by kernel_rfl).symm.trans hf) |>.symm
  obtain rfl : fn = Tryd.f3 := (Option.some.inj (Tryd.func3.symm.trans hfn)).symm
  refine ⟨by kernel_rfl, fun j t ht => ?_⟩
  rw [Tryd.params3] at ht
  obtain rfl : t = 26 := by simpa using Array.mem_of_getElem? ht
  · exact (show Tryd.prog.wantsStandIn 26 = false by kernel_rfl)

theorem proved : Rows.FnExactAbsWideCardSaid :=
  Claim7.holds_tied_plain_at .later [] _ _ _ _ said (fun _ h => by cases h) (by kernel_rfl) (fun _ h => by cases h) fnExactAbsWide_row_tie rfl ⟨rfl, rfl⟩ (by kernel_rfl) rfl plain (by kernel_rfl)
#print axioms proved
end Go.Proofs.YtddcojeghdnhnaaDoor.fnExactAbsWide
