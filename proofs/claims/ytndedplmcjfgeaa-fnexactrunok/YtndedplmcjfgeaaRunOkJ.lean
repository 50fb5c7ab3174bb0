/- Which runs are ok, and how deep they are: the program's (I). -/
import Derived.Test.YtndedplmcjfgeaaRunOkI
namespace Go.Proofs.Ytndedplmcjfgeaa
open Go.ChangeShapes Go.WideShapes Go.ChangeAt Go.RowKit

set_option maxRecDepth 10000 in
set_option maxHeartbeats 16000000 in
theorem runOkI (a : Option Addr) (b off m cap : Nat) (P : Nat → Proc) (S : Nat → Spot) (st out pr pc : Int) (fa : Option Addr) (fb fo q fcap : Nat) (F : Nat → Frm) (R : Nat → FSpot) (w : World) (hm : m ≤ 1048576) (hnn : ∀ i, i < m → (P i).n ≤ 1048576) (hq : q ≤ 1048576) (hn : ∀ i, i < q → (F i).nv ≤ 1048576 ∧ (F i).nc ≤ 1048576) (hP : ProcsAt a b off m P S w) (hF : FramesAt fa fb fo q F R w) :
    Calls Try.prog 23 #[.agg #[.slice a m cap], .agg #[.int .i64 st, .slice fa q fcap, .int .i64 out, .int .i64 pr, .int .i64 pc]] w fun e w' => e = .returned (.bool (runOk P m st out pr pc q F)) ∧ Below w.heap.size w w' := by
  have H0 : HeldL w [(w.heap.size + 1, [Value.int .i64 st, .slice fa q fcap, .int .i64 out, .int .i64 pr, .int .i64 pc]), (w.heap.size, [Value.slice a m cap])] ((w.alloc (.cells #[.slice a m cap] 29)).alloc (.cells #[.int .i64 st, .slice fa q fcap, .int .i64 out, .int .i64 pr, .int .i64 pc] 47)) := by
    have e1 : w.heap.size + 1 = (w.alloc (.cells #[.slice a m cap] 29)).heap.size := by simp
    rw [e1]
    exact HeldL.newL (vs := [Value.int .i64 st, .slice fa q fcap, .int .i64 out, .int .i64 pr, .int .i64 pc]) (HeldL.newL (vs := [Value.slice a m cap]) (HeldL.nil w))
  obtain ⟨Lb, hLb⟩ : ∃ L, L = [(w.heap.size + 1, [Value.int .i64 st, .slice fa q fcap, .int .i64 out, .int .i64 pr, .int .i64 pc]), (w.heap.size, [Value.slice a m cap])] := ⟨_, rfl⟩
  have mR : (w.heap.size + 1, [Value.int .i64 st, .slice fa q fcap, .int .i64 out, .int .i64 pr, .int .i64 pc]) ∈ Lb := by rw [hLb]; simp
  have mP : (w.heap.size, [Value.slice a m cap]) ∈ Lb := by rw [hLb]; simp
  rw [← hLb] at H0
  clear hLb
  go_enter Try.func23, Try.ntmps23
  go_wp2_with fail
  refine (prgOkI _ _ _ _ _ _ _ _ hm hnn (hP.next H0.below)).mono ?_
  rintro e w1 ⟨rfl, hb⟩
  have H1 := H0.next hb
  clear H0 hb
  cases g1 : prgOk P m
  · go_wp2_with fail
    go_ret
    exact ⟨ret_bool (by simp [runOk, g1]), H1.below⟩
  have r2' := H1.cell mR (i := 2) rfl
  dsimp only at r2'
  go_wp2_with fail
  refine (okI _ _).mono ?_
  rintro e w2 ⟨rfl, rfl⟩
  cases g2 : okB out
  · go_wp2_with fail
    go_ret
    exact ⟨ret_bool (by simp [runOk, g2]), H1.below⟩
  have H2 := H1
  have r0' := H2.cell mR (i := 0) rfl
  dsimp only at r0'
  clear H1 r2'
  by_cases s1 : st = 1
  · subst s1
    have hR : Hid (runOk P m 1 out pr pc q F = (out == 0 && nowB pr pc && (inB q 1 5 && callsB P m F q q))) := by show runOk P m 1 out pr pc q F = _; simp [runOk, g1, g2]
    clear g1 g2
    by_cases ho : out = 0
    · subst ho
      have r0' := H2.cell mR (i := 0) rfl
      have r1' := H2.cell mR (i := 1) rfl
      have r2' := H2.cell mR (i := 2) rfl
      have r3' := H2.cell mR (i := 3) rfl
      have r4' := H2.cell mR (i := 4) rfl
      dsimp only at r0' r1' r2' r3' r4'
      go_wp2_with fail
      refine (nowI _ _ _ _ _ _ _ _).mono ?_
      rintro e w3 ⟨rfl, hb⟩
      have H3 := H2.next hb
      clear H2 hb r0' r1' r2' r3' r4'
      cases hnow : nowB pr pc
      · go_wp2_with fail
        go_ret
        exact ⟨ret_bool (by rw [hR.out]; simp [hnow]), H3.below⟩
      · have r1' := H3.cell mR (i := 1) rfl
        dsimp only at r1'
        have p0' := H3.cell mP (i := 0) rfl
        dsimp only at p0'
        go_wp2_with fail
        refine (callsI _ _ _ _ _ _ _ _ _ _ _ _ _ _ _ hm hq hn (hP.next H3.below) (hF.next H3.below)).mono ?_
        rintro e w4 ⟨rfl, hb⟩
        have H4 := H3.next hb
        go_wp2_with fail
        go_ret
        exact ⟨ret_bool (by rw [hR.out]; simp [hnow]), H4.below⟩
    · have ho1 : (out == 0) = false := by simp [ho]
      have r2' := H2.cell mR (i := 2) rfl
      dsimp only at r2'
      go_wp2_with fail
      go_ret
      exact ⟨ret_bool (by rw [hR.out]; simp [ho1]), H2.below⟩
  by_cases s2 : st = 2
  · subst s2
    have hR : Hid (runOk P m 2 out pr pc q F = (nowB pr pc && decide (q = 0))) := by show runOk P m 2 out pr pc q F = _; simp [runOk, g1, g2]
    clear g1 g2
    have r0' := H2.cell mR (i := 0) rfl
    have r1' := H2.cell mR (i := 1) rfl
    have r2' := H2.cell mR (i := 2) rfl
    have r3' := H2.cell mR (i := 3) rfl
    have r4' := H2.cell mR (i := 4) rfl
    dsimp only at r0' r1' r2' r3' r4'
    go_wp2_with fail
    refine (nowI _ _ _ _ _ _ _ _).mono ?_
    rintro e w3 ⟨rfl, hb⟩
    have H3 := H2.next hb
    clear H2 hb r0' r1' r2' r3' r4'
    cases hnow : nowB pr pc
    · go_wp2_with fail
      go_ret
      exact ⟨ret_bool (by rw [hR.out]; simp [hnow]), H3.below⟩
    · by_cases hq0 : q = 0
      · subst hq0
        have r1' := H3.cell mR (i := 1) rfl
        dsimp only at r1'
        go_wp2_with fail
        go_ret
        exact ⟨ret_bool (by rw [hR.out]; simp [hnow]), H3.below⟩
      · have hq1 : ¬ (q : Int) = 0 := by omega
        have hq2 : ((q : Int) == 0) = false := by simp [hq0]
        have r1' := H3.cell mR (i := 1) rfl
        dsimp only at r1'
        go_wp2_with fail
        go_ret
        exact ⟨ret_bool (by rw [hR.out]; simp [hnow, hq0]), H3.below⟩
  by_cases s3 : st = 3
  · subst s3
    have hR : Hid (runOk P m 3 out pr pc q F = (out == 0 && (atB P m pr pc && riskB (atC P m pr pc 0)) && decide (q = 0))) := by show runOk P m 3 out pr pc q F = _; simp [runOk, g1, g2]
    clear g1 g2
    by_cases ho : out = 0
    · subst ho
      obtain ⟨mf, hmf⟩ : ∃ t, (atB P m pr pc && riskB (atC P m pr pc 0)) = t := ⟨_, rfl⟩
      have r2' := H2.cell mR (i := 2) rfl
      have r3' := H2.cell mR (i := 3) rfl
      have r4' := H2.cell mR (i := 4) rfl
      dsimp only at r2' r3' r4'
      have p0' := H2.cell mP (i := 0) rfl
      dsimp only at p0'
      go_wp2_with fail
      refine (mayI _ _ _ _ _ _ _ _ _ _ hm (hP.next H2.below)).mono ?_
      rintro e w3 ⟨rfl, hb⟩
      have H3 := H2.next hb
      clear H2 hb r2' r3' r4' p0'
      rw [hmf]
      cases mf
      · go_wp2_with fail
        go_ret
        exact ⟨ret_bool (by rw [hR.out]; simp [hmf]), H3.below⟩
      · by_cases hq0 : q = 0
        · subst hq0
          have r1' := H3.cell mR (i := 1) rfl
          dsimp only at r1'
          go_wp2_with fail
          go_ret
          exact ⟨ret_bool (by rw [hR.out]; simp [hmf]), H3.below⟩
        · have hq1 : ¬ (q : Int) = 0 := by omega
          have hq2 : ((q : Int) == 0) = false := by simp [hq0]
          have r1' := H3.cell mR (i := 1) rfl
          dsimp only at r1'
          go_wp2_with fail
          go_ret
          exact ⟨ret_bool (by rw [hR.out]; simp [hmf, hq0]), H3.below⟩
    · have ho1 : (out == 0) = false := by simp [ho]
      have r2' := H2.cell mR (i := 2) rfl
      dsimp only at r2'
      go_wp2_with fail
      go_ret
      exact ⟨ret_bool (by rw [hR.out]; simp [ho1]), H2.below⟩
  by_cases s4 : st = 4
  · subst s4
    have hR : Hid (runOk P m 4 out pr pc q F = (out == 0 && nowB pr pc && decide (q = 0))) := by show runOk P m 4 out pr pc q F = _; simp [runOk, g1, g2]
    clear g1 g2
    by_cases ho : out = 0
    · subst ho
      have r0' := H2.cell mR (i := 0) rfl
      have r1' := H2.cell mR (i := 1) rfl
      have r2' := H2.cell mR (i := 2) rfl
      have r3' := H2.cell mR (i := 3) rfl
      have r4' := H2.cell mR (i := 4) rfl
      dsimp only at r0' r1' r2' r3' r4'
      go_wp2_with fail
      refine (nowI _ _ _ _ _ _ _ _).mono ?_
      rintro e w3 ⟨rfl, hb⟩
      have H3 := H2.next hb
      clear H2 hb r0' r1' r2' r3' r4'
      cases hnow : nowB pr pc
      · go_wp2_with fail
        go_ret
        exact ⟨ret_bool (by rw [hR.out]; simp [hnow]), H3.below⟩
      · by_cases hq0 : q = 0
        · subst hq0
          have r1' := H3.cell mR (i := 1) rfl
          dsimp only at r1'
          go_wp2_with fail
          go_ret
          exact ⟨ret_bool (by rw [hR.out]; simp [hnow]), H3.below⟩
        · have hq1 : ¬ (q : Int) = 0 := by omega
          have hq2 : ((q : Int) == 0) = false := by simp [hq0]
          have r1' := H3.cell mR (i := 1) rfl
          dsimp only at r1'
          go_wp2_with fail
          go_ret
          exact ⟨ret_bool (by rw [hR.out]; simp [hnow, hq0]), H3.below⟩
    · have ho1 : (out == 0) = false := by simp [ho]
      have r2' := H2.cell mR (i := 2) rfl
      dsimp only at r2'
      go_wp2_with fail
      go_ret
      exact ⟨ret_bool (by rw [hR.out]; simp [ho1]), H2.below⟩
  have s1' : (st == 1) = false := by simp [s1]
  have s2' : (st == 2) = false := by simp [s2]
  have s3' : (st == 3) = false := by simp [s3]
  have s4' : (st == 4) = false := by simp [s4]
  have hR : Hid (runOk P m st out pr pc q F = false) := by show runOk P m st out pr pc q F = false; simp [runOk, s1, s2, s3, s4]
  go_wp2_with fail
  go_ret
  exact ⟨ret_bool (by rw [hR.out]), H2.below⟩
end Go.Proofs.Ytndedplmcjfgeaa
