/- Which runs are ok: the program's (I). -/
import Derived.Test.YtndedplmcjfgeaaRunOkP
import Derived.Test.YtndedplmcjfgeaaPrgAtI
import Derived.Test.YtndedplmcjfgeaaPrgOkI
import Derived.Deep.QuietTactic
import Derived.BigQuiet
import Derived.Deep.DeepCutAuto
import Derived.Deep.CutBlock
namespace Go.Proofs.Ytndedplmcjfgeaa
open Go.ChangeShapes Go.WideShapes Go.ChangeAt Go.RowKit

theorem atI8 (a : Option Addr) (b off m cap : Nat) (P : Nat → Proc) (S : Nat → Spot) (proc pc : Int) (x0 x1 x2 x3 x4 x5 x6 x7 : Int) (t : Bool) (w : World) (hm : m ≤ 1048576) (hP : ProcsAt a b off m P S w) (h : AtV P m proc pc = .agg #[.int .i64 x0, .int .i64 x1, .int .i64 x2, .int .i64 x3, .int .i64 x4, .int .i64 x5, .int .i64 x6, .int .i64 x7]) (ht : atB P m proc pc = t) :
    Calls Try.prog 16 #[.agg #[.slice a m cap], .int .i64 proc, .int .i64 pc] w fun e w' => e = .returned (.tuple #[.agg #[.int .i64 x0, .int .i64 x1, .int .i64 x2, .int .i64 x3, .int .i64 x4, .int .i64 x5, .int .i64 x6, .int .i64 x7], .bool t]) ∧ Below w.heap.size w w' := by
  have := prgAtI a b off m cap P S proc pc w hm hP
  rw [h, ht] at this
  exact this
theorem nowI (st out pr pc : Int) (fa : Option Addr) (q fcap : Nat) (w : World) :
    Calls Try.prog 51 #[.agg #[.int .i64 st, .slice fa q fcap, .int .i64 out, .int .i64 pr, .int .i64 pc]] w fun e w' => e = .returned (.bool (nowB pr pc)) ∧ Below w.heap.size w w' := by
  have b0 := (Below.refl w.heap.size w).alloc (Nat.le_refl _) (.cells #[.int .i64 st, .slice fa q fcap, .int .i64 out, .int .i64 pr, .int .i64 pc] 47)
  by_cases h1 : pr = 0
  · subst h1
    by_cases h2 : pc = 0
    · subst h2
      go_enter Try.func51, Try.ntmps51
      go_wp2
      go_ret
      exact ⟨rfl, b0⟩
    · have e2 : (pc == 0) = false := by simp [h2]
      go_enter Try.func51, Try.ntmps51
      go_wp2
      go_ret
      exact ⟨ret_bool (by simp [nowB, e2]), b0⟩
  · have e1 : (pr == 0) = false := by simp [h1]
    go_enter Try.func51, Try.ntmps51
    go_wp2
    go_ret
    exact ⟨ret_bool (by simp [nowB, e1]), b0⟩
set_option maxHeartbeats 4000000 in
theorem mayI (a : Option Addr) (b off m cap : Nat) (P : Nat → Proc) (S : Nat → Spot) (proc pc : Int) (w : World) (hm : m ≤ 1048576) (hP : ProcsAt a b off m P S w) :
    Calls Try.prog 53 #[.agg #[.slice a m cap], .int .i64 proc, .int .i64 pc] w fun e w' => e = .returned (.bool (atB P m proc pc && riskB (atC P m proc pc 0))) ∧ Below w.heap.size w w' := by
  have b0 := (Below.refl w.heap.size w).alloc (Nat.le_refl _) (.cells #[.slice a m cap] 29)
  have P0 := hP.next b0
  clear hP
  obtain ⟨x0, x1, x2, x3, x4, x5, x6, x7, hx⟩ : ∃ x0 x1 x2 x3 x4 x5 x6 x7, AtV P m proc pc = .agg #[.int .i64 x0, .int .i64 x1, .int .i64 x2, .int .i64 x3, .int .i64 x4, .int .i64 x5, .int .i64 x6, .int .i64 x7] := ⟨_, _, _, _, _, _, _, _, rfl⟩
  have hx0 : atC P m proc pc 0 = x0 := by have := hx; simp only [AtV, Value.agg.injEq, Array.mk.injEq, List.cons.injEq, Value.int.injEq, true_and] at this; exact this.1
  have hxS : Hid (AtV P m proc pc = .agg #[.int .i64 x0, .int .i64 x1, .int .i64 x2, .int .i64 x3, .int .i64 x4, .int .i64 x5, .int .i64 x6, .int .i64 x7]) := hx
  obtain ⟨t, ht⟩ : ∃ t, atB P m proc pc = t := ⟨_, rfl⟩
  have htS : Hid (atB P m proc pc = t) := ht
  rw [hx0, ht]
  clear hx hx0 ht
  go_enter Try.func53, Try.ntmps53
  go_wp2_with fail
  refine (atI8 _ _ _ _ _ _ _ _ _ x0 x1 x2 x3 x4 x5 x6 x7 t _ hm P0 hxS.out htS.out).mono ?_
  rintro e w1 ⟨rfl, hb⟩
  have b1 := (below_tr b0 hb).alloc (below_tr b0 hb).size (.cells #[.int .i64 x0, .int .i64 x1, .int .i64 x2, .int .i64 x3, .int .i64 x4, .int .i64 x5, .int .i64 x6, .int .i64 x7] 34)
  clear P0
  cases t
  · go_wp2_with fail
    go_ret
    exact ⟨rfl, b1⟩
  · go_wp2_with fail
    refine (riskI _ _).mono ?_
    rintro e w2 ⟨rfl, rfl⟩
    go_wp2_with fail
    go_ret
    exact ⟨ret_bool (by simp), b1⟩
theorem HeldL.three {w W : World} {L : List (Nat × List Value)} {vs : List Value} {t : TypeId} (h : HeldL w L W) : HeldL w ((W.heap.size, vs) :: L) (W.alloc (.cells vs.toArray t)) := HeldL.newL h
set_option maxRecDepth 10000 in
set_option maxHeartbeats 16000000 in
theorem callsI (a : Option Addr) (b off m cap : Nat) (P : Nat → Proc) (S : Nat → Spot) (fa : Option Addr) (fb fo q fcap : Nat) (F : Nat → Frm) (R : Nat → FSpot) (w : World) (hm : m ≤ 1048576) (hq : q ≤ 1048576) (hn : ∀ i, i < q → (F i).nv ≤ 1048576 ∧ (F i).nc ≤ 1048576) (hP : ProcsAt a b off m P S w) (hF : FramesAt fa fb fo q F R w) :
    Calls Try.prog 52 #[.agg #[.slice a m cap], .slice fa q fcap] w fun e w' => e = .returned (.bool (inB q 1 5 && callsB P m F q q)) ∧ Below w.heap.size w w' := by
  have H0 : HeldL w [(w.heap.size, [Value.slice a m cap])] (w.alloc (.cells #[.slice a m cap] 29)) := HeldL.newL (vs := [Value.slice a m cap]) (HeldL.nil w)
  obtain ⟨Lb, hLb⟩ : ∃ L, L = [(w.heap.size, [Value.slice a m cap])] := ⟨_, rfl⟩
  rw [← hLb] at H0
  have mP : (w.heap.size, [Value.slice a m cap]) ∈ Lb := by rw [hLb]; simp
  clear hLb
  go_enter Try.func52, Try.ntmps52
  go_wp2_with fail
  refine (countI _ _ _).mono ?_
  rintro e w1 ⟨rfl, rfl⟩
  cases hc : inB q 1 5
  · go_wp2_with fail
    go_ret
    exact ⟨ret_bool (by simp [hc]), H0.below⟩
  have hq5 : q ≤ 5 := by simp [inB] at hc; omega
  have hq1 : 1 ≤ q := by simp [inB] at hc; omega
  have fa1 := hF.at_ (by omega)
  subst fa1
  clear hc
  go_wp2_with fail
  go_loopw [16] (fun i W => ∃ k : Nat, k ≤ q ∧ i = .int .i64 k ∧ callsB P m F q k = true ∧ HeldL w Lb W) (fun i _ => q - (intOf i).toNat)
  case atStart => exact ⟨0, Nat.zero_le _, rfl, rfl, H0⟩
  case round =>
    clear H0
    obtain ⟨k, hk, rfl, hcb, hS⟩ := hrel
    have hcS : Hid (callsB P m F q k = true) := hcb
    clear hcb
    by_cases hlt : k < q
    · have t1 : ((k : Int)).toNat = k := by omega
      have t2 : (0 : Int) ≤ (k : Int) := by omega
      have t3 : (k : Int) < (q : Int) := by omega
      have F1 := hF.next hS.below
      have c0 := F1.proc k hlt
      have c1 := F1.pc k hlt
      have c2 := F1.vars k hlt
      have c3 := F1.cells k hlt
      obtain ⟨fp, hfp⟩ : ∃ x, (F k).proc = x := ⟨_, rfl⟩
      obtain ⟨fc, hfc⟩ : ∃ x, (F k).pc = x := ⟨_, rfl⟩
      obtain ⟨nv, hnv⟩ : ∃ x, (F k).nv = x := ⟨_, rfl⟩
      obtain ⟨nc, hnc⟩ : ∃ x, (F k).nc = x := ⟨_, rfl⟩
      obtain ⟨va, hva⟩ : ∃ x, (R k).v.a = x := ⟨_, rfl⟩
      obtain ⟨vc, hvc⟩ : ∃ x, (R k).v.cap = x := ⟨_, rfl⟩
      obtain ⟨ca, hca⟩ : ∃ x, (R k).c.a = x := ⟨_, rfl⟩
      obtain ⟨cc, hcc⟩ : ∃ x, (R k).c.cap = x := ⟨_, rfl⟩
      have V0 := hF.vs k hlt
      have C0 := hF.cs k hlt
      have hn' := hn k hlt
      rw [hfp] at c0
      rw [hfc] at c1
      rw [hnv, hva, hvc] at c2
      rw [hnc, hca, hcc] at c3
      rw [hnv, hva] at V0
      rw [hnc, hca] at C0
      rw [hnv, hnc] at hn'
      have K8 := HeldL.newL (vs := [Value.int .i64 fp, .int .i64 fc, .slice va nv vc, .slice ca nc cc]) (t := 73) hS
      obtain ⟨x0, x1, x2, x3, x4, x5, x6, x7, hx⟩ : ∃ x0 x1 x2 x3 x4 x5 x6 x7, AtV P m fp fc = .agg #[.int .i64 x0, .int .i64 x1, .int .i64 x2, .int .i64 x3, .int .i64 x4, .int .i64 x5, .int .i64 x6, .int .i64 x7] := ⟨_, _, _, _, _, _, _, _, rfl⟩
      have hx' := hx
      simp only [AtV, Value.agg.injEq, Array.mk.injEq, List.cons.injEq, Value.int.injEq, true_and, and_true] at hx'
      obtain ⟨hx0, -, -, -, -, -, -, hx7⟩ := hx'
      obtain ⟨t, ht⟩ : ∃ t, atB P m fp fc = t := ⟨_, rfl⟩
      have hxS : Hid (AtV P m fp fc = .agg #[.int .i64 x0, .int .i64 x1, .int .i64 x2, .int .i64 x3, .int .i64 x4, .int .i64 x5, .int .i64 x6, .int .i64 x7]) := hx
      have htS : Hid (atB P m fp fc = t) := ht
      have hcall : Hid (callB P m F q k = (t && four (F k).v nv && four (F k).c nc && (!decide (k + 1 < q) || (x0 == 10 && x7 == (F (k + 1)).proc)))) := by
        show (frmOk P m (F k) && linkB P m F q k) = _
        simp only [frmOk, linkB, hfp, hfc, hnv, hnc, hx0, hx7, ht]
      clear hx hx0 hx7 ht hfp hfc hnv hnc hva hvc hca hcc F1
      obtain ⟨M, hM⟩ : ∃ M, M = wr.heap.size := ⟨_, rfl⟩
      rw [← hM] at K8
      have hMS : Hid (M = wr.heap.size) := hM
      clear hM
      have p0 := K8.cell (List.mem_cons_of_mem _ mP) (i := 0) rfl
      dsimp only at p0
      have P1 := hP.next K8.below
      go_wp2_with fail
      rw [← hMS.out]
      refine (atI8 _ _ _ _ _ _ _ _ _ x0 x1 x2 x3 x4 x5 x6 x7 t _ hm P1 hxS.out htS.out).mono ?_
      rintro e w2 ⟨rfl, b2⟩
      have K9 := HeldL.newL (vs := [Value.int .i64 x0, .int .i64 x1, .int .i64 x2, .int .i64 x3, .int .i64 x4, .int .i64 x5, .int .i64 x6, .int .i64 x7]) (t := 34) (K8.next b2)
      obtain ⟨Q, hQ⟩ : ∃ Q, Q = w2.heap.size := ⟨_, rfl⟩
      rw [← hQ] at K9
      have hQS : Hid (Q = w2.heap.size) := hQ
      have hMQ : M < Q := by rw [hQ]; exact (K8.next b2).size List.mem_cons_self
      clear hQ K8 p0 P1 b2 c0 c1 c2 c3 hMS
      obtain ⟨Lc, hLc⟩ : ∃ L, L = (Q, [Value.int .i64 x0, .int .i64 x1, .int .i64 x2, .int .i64 x3, .int .i64 x4, .int .i64 x5, .int .i64 x6, .int .i64 x7]) :: (M, [Value.int .i64 fp, .int .i64 fc, .slice va nv vc, .slice ca nc cc]) :: Lb := ⟨_, rfl⟩
      rw [← hLc] at K9
      have mQ : (Q, [Value.int .i64 x0, .int .i64 x1, .int .i64 x2, .int .i64 x3, .int .i64 x4, .int .i64 x5, .int .i64 x6, .int .i64 x7]) ∈ Lc := by rw [hLc]; simp
      have mM : (M, [Value.int .i64 fp, .int .i64 fc, .slice va nv vc, .slice ca nc cc]) ∈ Lc := by rw [hLc]; simp
      have upL : ∀ e, e ∈ Lb → e ∈ Lc := fun e he => by rw [hLc]; simp [he]
      clear hLc
      go_upto_region 7 with fail
      rw [← hQS.out]
      clear hQS
      go_cut [43] (fun c W => c = .bool (!(t && four (F k).v nv && four (F k).c nc)) ∧ HeldL w Lc W)
      case first =>
        cases t
        · go_wp2_with fail
          go_meet
          exact ⟨by simp, K9⟩
        · have v2 := K9.cell mM (i := 2) rfl
          dsimp only at v2
          go_wp2_with fail
          refine (numsI _ _ _ _ _ _ _ hn'.1 (V0.next K9.below)).mono ?_
          rintro e w3 ⟨rfl, rfl⟩
          cases h4 : four (F k).v nv
          · go_wp2_with fail
            go_meet
            exact ⟨by simp [h4], K9⟩
          · have v3 := K9.cell mM (i := 3) rfl
            dsimp only at v3
            go_wp2_with fail
            refine (numsI _ _ _ _ _ _ _ hn'.2 (C0.next K9.below)).mono ?_
            rintro e w4 ⟨rfl, rfl⟩
            go_wp2_with fail
            go_meet
            exact ⟨by simp [h4], K9⟩
      case rest =>
        obtain ⟨rfl, K10⟩ := hcut
        clear K9
        cases hfr : (t && four (F k).v nv && four (F k).c nc)
        · rw [hfr] at hcall
          have hbad : callB P m F q k = false := by rw [hcall.out]; simp
          have hbS : Hid (callsB P m F q q = false) := callsB_false hlt hbad
          clear hbad hcall
          go_wp2_with fail
          go_ret
          exact ⟨ret_bool (by rw [hbS.out]; simp), K10.below⟩
        rw [hfr] at hcall
        clear hfr
        have y0 := K10.cell mQ (i := 0) rfl
        have y7 := K10.cell mQ (i := 7) rfl
        dsimp only at y0 y7
        by_cases hab : k + 1 < q
        · have nx := (hF.next K10.below).proc (k + 1) hab
          have ta : ((k : Int) + 1) < (q : Int) := by omega
          have tb : ((k : Int) + 1).toNat = k + 1 := by omega
          have tc : (0 : Int) ≤ (k : Int) + 1 := by omega
          obtain ⟨np, hnp⟩ : ∃ x, (F (k + 1)).proc = x := ⟨_, rfl⟩
          rw [hnp] at nx
          have hcall2 : Hid (callB P m F q k = (x0 == 10 && x7 == np)) := by rw [hcall.out, hnp, decide_eq_true hab]; rfl
          clear hnp hcall
          by_cases h10 : x0 = 10
          · subst h10
            by_cases h7 : x7 = np
            · subst h7
              have hgood : Hid (callB P m F q k = true) := by show callB P m F q k = true; rw [hcall2.out]; simp
              clear hcall2
              go_wp2_with fail
              go_quiet (fail)
              go_wp2
              go_roundw
              case rel => exact ⟨k + 1, by omega, by go_num, by show (callsB P m F q k && callB P m F q k) = true; rw [hcS.out, hgood.out]; rfl, HeldL.next (below_dn (Below.refl _ _) _) (K10.sub upL)⟩
              case measure => simp [intOf]; omega
            · have e7 : (x7 == np) = false := by simp [h7]
              have e7' : (x7 != np) = true := by simp [h7]
              have hbS : Hid (callsB P m F q q = false) := callsB_false hlt (by rw [hcall2.out]; simp [e7])
              clear hcall2
              go_wp2_with fail
              go_quiet (fail)
              go_wp2
              go_ret
              exact ⟨ret_bool (by rw [hbS.out]; simp), below_dn K10.below _⟩
          · have e10 : (x0 == 10) = false := by simp [h10]
            have e10' : (x0 != 10) = true := by simp [h10]
            have hbS : Hid (callsB P m F q q = false) := callsB_false hlt (by rw [hcall2.out]; simp [e10])
            clear hcall2
            go_wp2_with fail
            go_quiet (fail)
            go_wp2
            go_ret
            exact ⟨ret_bool (by rw [hbS.out]; simp), below_dn K10.below _⟩
        · have ta : (q : Int) ≤ (k : Int) + 1 := by omega
          have td : decide ((k : Int) + 1 < (q : Int)) = false := decide_eq_false (by omega)
          have te : ¬ ((k : Int) + 1) < (q : Int) := by omega
          have hgood : Hid (callB P m F q k = true) := by show callB P m F q k = true; rw [hcall.out]; simp [hab]
          clear hcall
          go_wp2_with fail
          go_quiet (fail)
          go_wp2
          go_roundw
          case rel => exact ⟨k + 1, by omega, by go_num, by show (callsB P m F q k && callB P m F q k) = true; rw [hcS.out, hgood.out]; rfl, HeldL.next (below_dn (Below.refl _ _) _) (K10.sub upL)⟩
          case measure => simp [intOf]; omega
    · obtain rfl : k = q := by omega
      go_wp2_with fail
      go_ret
      exact ⟨ret_bool (by rw [hcS.out, show inB k 1 5 = true by simp [inB]; omega]; rfl), hS.below⟩
end Go.Proofs.Ytndedplmcjfgeaa
