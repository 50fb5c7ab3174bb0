/- The program's calls of a procedure: callsOf, hasProc, GrfCalls. -/
import Derived.Test.YtndedplmcjfgeaaGrfI
import Derived.Test.YtndedplmcjfgeaaPrgOkI
import Derived.Test.YtndedplmcjfgeaaStepI
namespace Go.Proofs.Ytndedplmcjfgeaa
open Go.ChangeShapes Go.WideShapes Go.ChangeAt Go.RowKit

set_option maxRecDepth 10000 in
set_option maxHeartbeats 4000000 in
theorem callsOfI (lo hi' : Int) (a : Option Addr) (b off n cap : Nat) (c : Nat → Nat → Int) (w : World) (hn : n ≤ 10) (hC : CodeAt a b off n c w) :
    Calls Try.prog 64 #[.agg #[.int .i64 lo, .int .i64 hi', .slice a n cap]] w fun e w' => ∃ v, e = .returned v ∧ Made w.heap.size v (callsTo c n) w' ∧ Below w.heap.size w w' := by
  obtain ⟨i0, hi, hz0, hz1, hz2⟩ := info_parts infoIntO
  have b0 : Below w.heap.size w (w.alloc (.cells #[.int .i64 lo, .int .i64 hi', .slice a n cap] 63)) := (Below.refl w.heap.size w).alloc (Nat.le_refl _) _
  have hC0 := hC.next b0
  clear hC
  go_enter Try.func64, Try.ntmps64
  go_wp2_with fail
  generalize w.alloc (.cells #[.int .i64 lo, .int .i64 hi', .slice a n cap] 63) = W1 at hC0 b0 ⊢
  go_loopw [3, 9] (fun v i W => ∃ (k : Nat), k ≤ n ∧ i = .int .i64 k ∧ Owns W1.heap.size 3 v (tosTo c k) W ∧ Below W1.heap.size W1 W) (fun _ i _ => n - (intOf i).toNat)
  case atStart => exact ⟨0, Nat.zero_le _, rfl, Owns.nil _ _ _, Below.refl _ _⟩
  case round =>
    obtain ⟨k, hk, rfl, own, hB⟩ := hrel
    have hs : W1.heap.size ≤ wr.heap.size := hB.size
    by_cases hlt : k < n
    · have hC' := hC0.next hB
      have e2 := hC'.at_ (by omega)
      have d0 := hC'.cell k 0 hlt (by omega)
      have d1 := hC'.cell k 1 hlt (by omega)
      have d2 := hC'.cell k 2 hlt (by omega)
      have d3 := hC'.cell k 3 hlt (by omega)
      have d4 := hC'.cell k 4 hlt (by omega)
      have d5 := hC'.cell k 5 hlt (by omega)
      have d6 := hC'.cell k 6 hlt (by omega)
      have d7 := hC'.cell k 7 hlt (by omega)
      rw [Nat.add_zero] at d0
      have t4 : ((k : Int)).toNat = k := by omega
      have t5 : (0 : Int) ≤ (k : Int) := by omega
      have t6 : (k : Int) < (n : Int) := by omega
      have hl := tosTo_len c k
      subst e2
      clear hC0 hC'
      have E : Hid (tosTo c (k + 1) = if c k 0 = 10 then tosTo c k ++ [c k 7] else tosTo c k) := rfl
      generalize tosTo c k = zs at own E hl
      generalize c k 0 = x0 at d0 E
      generalize c k 1 = x1 at d1
      generalize c k 2 = x2 at d2
      generalize c k 3 = x3 at d3
      generalize c k 4 = x4 at d4
      generalize c k 5 = x5 at d5
      generalize c k 6 = x6 at d6
      generalize c k 7 = x7 at d7 E
      by_cases h10 : x0 = 10
      · subst h10
        have O0 := (own.alloc (.cells #[.int .i64 10, .int .i64 x1, .int .i64 x2, .int .i64 x3, .int .i64 x4, .int .i64 x5, .int .i64 x6, .int .i64 x7] 34)).alloc (.cells #[.int .i64 x7] 3)
        have B0 := (hB.alloc hs (.cells #[.int .i64 10, .int .i64 x1, .int .i64 x2, .int .i64 x3, .int .i64 x4, .int .i64 x5, .int .i64 x6, .int .i64 x7] 34)).alloc (by simp; omega) (.cells #[.int .i64 x7] 3)
        go_wp2_with (at_builtin; refine wpList_append_own _ rfl (.tmp 16) (.tmp 19) 55 rfl W1.heap.size 3 i0 (.int .i64 0) 1 8 Try.underlying55 hi hz0 hz1 hz2 rfl (by decide) _ _ _ rfl O0 ⟨wr.heap.size + 1, 0, none⟩ 1 1 [.int .i64 x7] rfl rfl (one_cells (by simp)) (by simp [Value.oneCell']) (by simp [maxLen]; omega) (by (try simp only [List.length_append, List.length_cons, List.length_nil]); omega) (by simp; omega) ?_)
        intro v1 w1 o1 g1 n1
        have O1 : Owns W1.heap.size 3 v1 (zs ++ [x7]) w1 := by unfold Owns; simpa using o1
        have B1 := B0.trans (O0.grow (by simp; omega) g1)
        have EE : tosTo c (k + 1) = zs ++ [x7] := by rw [E.out]; simp
        have ES : Hid (tosTo c (k + 1) = zs ++ [x7]) := EE
        clear o1 g1 n1 O0 B0 own hB d0 d1 d2 d3 d4 d5 d6 d7 E EE
        go_wp2_with fail
        go_roundw
        case measure => simp [intOf]; omega
        exact ⟨k + 1, by omega, by go_num, by rw [ES.out]; exact O1, B1⟩
      · have EE : tosTo c (k + 1) = zs := by rw [E.out, if_neg h10]
        have ES : Hid (tosTo c (k + 1) = zs) := EE
        have O0 := own.alloc (.cells #[.int .i64 x0, .int .i64 x1, .int .i64 x2, .int .i64 x3, .int .i64 x4, .int .i64 x5, .int .i64 x6, .int .i64 x7] 34)
        have B0 := hB.alloc hs (.cells #[.int .i64 x0, .int .i64 x1, .int .i64 x2, .int .i64 x3, .int .i64 x4, .int .i64 x5, .int .i64 x6, .int .i64 x7] 34)
        clear E EE own hB
        go_wp2_with fail
        go_roundw
        case measure => simp [intOf]; omega
        exact ⟨k + 1, by omega, by go_num, by rw [ES.out]; exact O0, B0⟩
    · obtain rfl : k = n := by omega
      have hl := tosTo_len c k
      clear hC0
      have bw := below_tr b0 hB
      go_wp2_with fail
      refine (eachOnceI _ _ _ _ own hs (by omega)).mono ?_
      rintro e w1 ⟨v, rfl, hM, hb⟩
      have b2 : Below w.heap.size w w1 := bw.trans (hb.mono b0.size)
      go_wp2_with fail
      go_ret
      exact ⟨_, rfl, by rw [← onceL_tos]; exact hM.weaken b0.size, b2⟩

set_option maxHeartbeats 4000000 in
theorem hasProcI (a : Option Addr) (b off m cap : Nat) (P : Nat → Proc) (S : Nat → Spot) (proc : Int) (w : World) (hm : m ≤ 1048576) (hn : ∀ i, i < m → (P i).n ≤ 1048576) (hP : ProcsAt a b off m P S w) :
    Calls Try.prog 63 #[.agg #[.slice a m cap], .int .i64 proc] w fun e w' => e = .returned (.bool (prgOk P m && placeQ proc m)) ∧ Below w.heap.size w w' := by
  have H0 : HeldL w [(w.heap.size, [Value.slice a m cap])] (w.alloc (.cells #[.slice a m cap] 29)) := HeldL.newL (vs := [Value.slice a m cap]) (HeldL.nil w)
  have hP0 := hP.next H0.below
  clear hP
  go_enter Try.func63, Try.ntmps63
  go_wp2_with fail
  refine (prgOkI _ _ _ _ _ _ _ _ hm hn hP0).mono ?_
  rintro e w1 ⟨rfl, hb⟩
  have H1 := H0.next hb
  have c0 := H1.cell List.mem_cons_self (i := 0) rfl
  dsimp only at c0
  clear hP0 H0 hb hn
  cases g : prgOk P m
  · go_wp2_with fail
    go_ret
    exact ⟨ret_bool (by simp [g]), H1.below⟩
  · go_wp2_with (go_at_call 40; refine (placeI _ _ _).mono ?_; rintro e w' ⟨rfl, rfl⟩)
    go_ret
    exact ⟨ret_bool (by simp [g]; rfl), H1.below⟩

set_option maxHeartbeats 4000000 in
theorem grfCallsI (a : Option Addr) (b off m cap : Nat) (P : Nat → Proc) (S : Nat → Spot) (proc : Int) (w : World) (hm : m ≤ 1048576) (hn : ∀ i, i < m → (P i).n ≤ 1048576) (hP : ProcsAt a b off m P S w) :
    Calls Try.prog 33 #[.agg #[.slice a m cap], .int .i64 proc] w fun e w' => ∃ v, e = .returned v ∧ Made w.heap.size v (grfCalls P m proc) w' ∧ Below w.heap.size w w' := by
  have H0 : HeldL w [(w.heap.size, [Value.slice a m cap])] (w.alloc (.cells #[.slice a m cap] 29)) := HeldL.newL (vs := [Value.slice a m cap]) (HeldL.nil w)
  go_enter Try.func33, Try.ntmps33
  go_wp2_with fail
  refine (hasProcI _ _ _ _ _ _ _ _ _ hm hn (hP.next H0.below)).mono ?_
  rintro e w1 ⟨rfl, hb⟩
  have H1 := H0.next hb
  have c0 := H1.cell List.mem_cons_self (i := 0) rfl
  dsimp only at c0
  have hs1 := H1.below.size
  clear H0 hb hn
  cases g : prgOk P m && placeQ proc m
  · have E : grfCalls P m proc = [] := by simp only [grfCalls, g]; simp
    have ES : Hid (grfCalls P m proc = []) := E
    clear E g
    go_wp2_with fail
    go_ret
    exact ⟨_, rfl, by rw [ES.out]; exact Made.nil _ _ _ _, H1.below⟩
  · have E : grfCalls P m proc = callsTo (P proc.toNat).c (P proc.toNat).n := by simp only [grfCalls, g]; simp
    have ES : Hid (grfCalls P m proc = callsTo (P proc.toNat).c (P proc.toNat).n) := E
    simp only [Bool.and_eq_true, placeQ, decide_eq_true_eq] at g
    obtain ⟨g0, g1, g2⟩ := g
    obtain ⟨p, rfl⟩ : ∃ p : Nat, proc = p := ⟨proc.toNat, by omega⟩
    have t1 : ((p : Int)).toNat = p := by omega
    have t2 : (0 : Int) ≤ (p : Int) := by omega
    have hp : p < m := by omega
    have hpn := (prg_n g0 hp).2
    rw [t1] at ES
    have hP1 := hP.next H1.below
    have e1 := hP1.at_ (by omega)
    have l0 := hP1.lo p hp
    have l1 := hP1.hi p hp
    have l2 := hP1.code p hp
    have hC := hP1.steps p hp
    subst e1
    clear E g0 g1 hP hP1
    generalize (P p).lo = lo at l0
    generalize (P p).hi = hi' at l1
    generalize (P p).n = n at l2 hC hpn ES
    generalize (P p).c = cc at hC ES
    generalize S p = s at l2 hC
    go_wp2_with fail
    refine (callsOfI _ _ _ _ _ _ _ _ _ hpn hC).mono ?_
    rintro e w2 ⟨v, rfl, hM, hb⟩
    have hM' := hM.weaken hs1
    have b2 := below_tr H1.below hb
    go_wp2_with fail
    go_ret
    exact ⟨_, rfl, by rw [ES.out]; exact hM', b2⟩
end Go.Proofs.Ytndedplmcjfgeaa
