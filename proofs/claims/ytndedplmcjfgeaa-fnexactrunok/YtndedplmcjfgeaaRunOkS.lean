/- Which runs are ok: the model's (S). -/
import Derived.Test.YtndedplmcjfgeaaRunOkP
import Derived.Test.YtndedplmcjfgeaaPrgOkS
import Derived.Test.YtndedplmcjfgeaaRegNewL
import Derived.Test.YtndedplmcjfgeaaDrawIs
import Derived.Deep.QuietTactic
import Derived.BigQuiet
import Derived.Deep.DeepCutAuto
import Derived.Deep.CutBlock
namespace Go.Proofs.Ytndedplmcjfgeaa
open Go.ChangeShapes Go.WideShapes Go.ChangeAt Go.RowKit

theorem atS8 (a : Option Addr) (b off m cap : Nat) (P : Nat → Proc) (S : Nat → Spot) (proc pc : Int) (x0 x1 x2 x3 x4 x5 x6 x7 : Int) (t : Bool) (w : World) (hm : m ≤ 1048576) (hP : ProcsAt a b off m P S w) (h : AtV P m proc pc = .agg #[.int .i64 x0, .int .i64 x1, .int .i64 x2, .int .i64 x3, .int .i64 x4, .int .i64 x5, .int .i64 x6, .int .i64 x7]) (ht : atB P m proc pc = t) :
    Calls Try.prog 15 #[.agg #[.slice a m cap], .int .i64 proc, .int .i64 pc] w fun e w' => e = .returned (.tuple #[.agg #[.int .i64 x0, .int .i64 x1, .int .i64 x2, .int .i64 x3, .int .i64 x4, .int .i64 x5, .int .i64 x6, .int .i64 x7], .bool t]) ∧ Below w.heap.size w w' := by
  have := prgAtS a b off m cap P S proc pc w hm hP
  rw [h, ht] at this
  exact this
set_option maxHeartbeats 4000000 in
theorem frmS (a : Option Addr) (b off m cap : Nat) (P : Nat → Proc) (S : Nat → Spot) (fp fc : Int) (va : Option Addr) (vb vo nv vc : Nat) (zv : Nat → Int) (ca : Option Addr) (cb co nc cc : Nat) (zc : Nat → Int) (r : Bool) (w : World) (hm : m ≤ 1048576) (hv : nv ≤ 1048576) (hc : nc ≤ 1048576) (hP : ProcsAt a b off m P S w) (V0 : IntsAt va vb vo nv zv w) (C0 : IntsAt ca cb co nc zc w) (hr : (atB P m fp fc && four zv nv && four zc nc) = r) :
    Calls Try.prog 48 #[.agg #[.slice a m cap], .agg #[.int .i64 fp, .int .i64 fc, .slice va nv vc, .slice ca nc cc]] w fun e w' => e = .returned (.bool r) ∧ Below w.heap.size w w' := by
  subst hr
  have H0 : HeldL w [(w.heap.size + 1, [Value.int .i64 fp, .int .i64 fc, .slice va nv vc, .slice ca nc cc]), (w.heap.size, [Value.slice a m cap])] ((w.alloc (.cells #[.slice a m cap] 29)).alloc (.cells #[.int .i64 fp, .int .i64 fc, .slice va nv vc, .slice ca nc cc] 73)) := by
    have e1 : w.heap.size + 1 = (w.alloc (.cells #[.slice a m cap] 29)).heap.size := by simp
    rw [e1]
    exact HeldL.newL (vs := [Value.int .i64 fp, .int .i64 fc, .slice va nv vc, .slice ca nc cc]) (HeldL.newL (vs := [Value.slice a m cap]) (HeldL.nil w))
  obtain ⟨x0, x1, x2, x3, x4, x5, x6, x7, hx⟩ : ∃ x0 x1 x2 x3 x4 x5 x6 x7, AtV P m fp fc = .agg #[.int .i64 x0, .int .i64 x1, .int .i64 x2, .int .i64 x3, .int .i64 x4, .int .i64 x5, .int .i64 x6, .int .i64 x7] := ⟨_, _, _, _, _, _, _, _, rfl⟩
  have hxS : Hid (AtV P m fp fc = .agg #[.int .i64 x0, .int .i64 x1, .int .i64 x2, .int .i64 x3, .int .i64 x4, .int .i64 x5, .int .i64 x6, .int .i64 x7]) := hx
  obtain ⟨t, ht⟩ : ∃ t, atB P m fp fc = t := ⟨_, rfl⟩
  have htS : Hid (atB P m fp fc = t) := ht
  rw [ht]
  clear hx ht
  go_enter Try.func48, Try.ntmps48
  go_wp2_with fail
  refine (atS8 _ _ _ _ _ _ _ _ _ x0 x1 x2 x3 x4 x5 x6 x7 t _ hm (hP.next H0.below) hxS.out htS.out).mono ?_
  rintro e w1 ⟨rfl, hb⟩
  have H1 := HeldL.alloc (.cells #[.int .i64 x0, .int .i64 x1, .int .i64 x2, .int .i64 x3, .int .i64 x4, .int .i64 x5, .int .i64 x6, .int .i64 x7] 34) (H0.next hb)
  clear H0 hb
  have v2 := H1.cell List.mem_cons_self (i := 2) rfl
  have v3 := H1.cell List.mem_cons_self (i := 3) rfl
  dsimp only at v2 v3
  cases t
  · go_wp2_with fail
    go_ret
    exact ⟨rfl, H1.below⟩
  · go_wp2_with fail
    refine (numsS _ _ _ _ _ _ _ hv (V0.next H1.below)).mono ?_
    rintro e w3 ⟨rfl, rfl⟩
    cases h4 : four zv nv
    · go_wp2_with fail
      go_ret
      exact ⟨ret_bool (by simp [h4]), H1.below⟩
    · go_wp2_with fail
      refine (numsS _ _ _ _ _ _ _ hc (C0.next H1.below)).mono ?_
      rintro e w4 ⟨rfl, rfl⟩
      go_wp2_with fail
      go_ret
      exact ⟨ret_bool (by simp [h4]), H1.below⟩
set_option maxRecDepth 10000 in
set_option maxHeartbeats 40000000 in
theorem runOkS (a : Option Addr) (b off m cap : Nat) (P : Nat → Proc) (S : Nat → Spot) (st out pr pc : Int) (fa : Option Addr) (fb fo q fcap : Nat) (F : Nat → Frm) (R : Nat → FSpot) (w : World) (hm : m ≤ 1048576) (hnn : ∀ i, i < m → (P i).n ≤ 1048576) (hq : q ≤ 1048576) (hn : ∀ i, i < q → (F i).nv ≤ 1048576 ∧ (F i).nc ≤ 1048576) (hP : ProcsAt a b off m P S w) (hF : FramesAt fa fb fo q F R w) :
    Calls Try.prog 21 #[.agg #[.slice a m cap], .agg #[.int .i64 st, .slice fa q fcap, .int .i64 out, .int .i64 pr, .int .i64 pc]] w fun e w' => e = .returned (.bool (runOk P m st out pr pc q F)) ∧ Below w.heap.size w w' := by
  have H0 : HeldL w [(w.heap.size + 1, [Value.int .i64 st, .slice fa q fcap, .int .i64 out, .int .i64 pr, .int .i64 pc]), (w.heap.size, [Value.slice a m cap])] ((w.alloc (.cells #[.slice a m cap] 29)).alloc (.cells #[.int .i64 st, .slice fa q fcap, .int .i64 out, .int .i64 pr, .int .i64 pc] 47)) := by
    have e1 : w.heap.size + 1 = (w.alloc (.cells #[.slice a m cap] 29)).heap.size := by simp
    rw [e1]
    exact HeldL.newL (vs := [Value.int .i64 st, .slice fa q fcap, .int .i64 out, .int .i64 pr, .int .i64 pc]) (HeldL.newL (vs := [Value.slice a m cap]) (HeldL.nil w))
  obtain ⟨Lb, hLb⟩ : ∃ L, L = [(w.heap.size + 1, [Value.int .i64 st, .slice fa q fcap, .int .i64 out, .int .i64 pr, .int .i64 pc]), (w.heap.size, [Value.slice a m cap])] := ⟨_, rfl⟩
  have mR : (w.heap.size + 1, [Value.int .i64 st, .slice fa q fcap, .int .i64 out, .int .i64 pr, .int .i64 pc]) ∈ Lb := by rw [hLb]; simp
  have mP : (w.heap.size, [Value.slice a m cap]) ∈ Lb := by rw [hLb]; simp
  rw [← hLb] at H0
  clear hLb
  go_enter Try.func21, Try.ntmps21
  go_wp2_with fail
  refine (prgOkS _ _ _ _ _ _ _ _ hm hnn (hP.next H0.below)).mono ?_
  rintro e w1 ⟨rfl, hb⟩
  have H1 := H0.next hb
  clear H0 hb
  cases g1 : prgOk P m
  · go_wp2_with fail
    go_ret
    exact ⟨ret_bool (by simp [runOk, g1]), H1.below⟩
  have r0' := H1.cell mR (i := 0) rfl
  have r2' := H1.cell mR (i := 2) rfl
  have r1' := H1.cell mR (i := 1) rfl
  dsimp only at r0' r1' r2'
  go_wp2_with fail
  refine (inS _ _ _ _).mono ?_
  rintro e w2 ⟨rfl, rfl⟩
  cases g0 : inB st 1 4
  · have hst : st ≠ 1 ∧ st ≠ 2 ∧ st ≠ 3 ∧ st ≠ 4 := by simp [inB] at g0; omega
    have hR : Hid (runOk P m st out pr pc q F = false) := by show runOk P m st out pr pc q F = false; simp [runOk, hst]
    clear hst
    go_wp2_with fail
    go_ret
    exact ⟨ret_bool (by rw [hR.out]), H1.below⟩
  go_wp2_with fail
  refine (okS _ _).mono ?_
  rintro e w2 ⟨rfl, rfl⟩
  cases g2 : okB out
  · go_wp2_with fail
    go_ret
    exact ⟨ret_bool (by simp [runOk, g2]), H1.below⟩
  have H2 := H1
  clear H1
  by_cases hq5 : 5 < (q : Int)
  · have hR : Hid (runOk P m st out pr pc q F = false) := by
      have a1 : inB q 1 5 = false := by simp [inB]; omega
      have a2 : ¬ q = 0 := by omega
      show runOk P m st out pr pc q F = false
      simp [runOk, a1, a2]
    go_wp2_with fail
    go_ret
    exact ⟨ret_bool (by rw [hR.out]), H2.below⟩
  by_cases s1 : st = 1
  · subst s1
    have hR : Hid (runOk P m 1 out pr pc q F = (out == 0 && nowB pr pc && (inB q 1 5 && callsB P m F q q))) := by show runOk P m 1 out pr pc q F = _; simp [runOk, g1, g2]
    clear g1 g2
    by_cases ho : out = 0
    · subst ho
      go_wp2_with fail
      clear r0' r1' r2'
      go_loopw [7] (fun i W => ∃ k : Nat, k ≤ q ∧ i = .int .i64 k ∧ callsB P m F q k = true ∧ HeldL w Lb W) (fun i _ => q - (intOf i).toNat)
      case atStart => exact ⟨0, Nat.zero_le _, rfl, rfl, H2⟩
      case round =>
        clear H2
        obtain ⟨k, hk, rfl, hcb, hS⟩ := hrel
        have hcS : Hid (callsB P m F q k = true) := hcb
        clear hcb
        have r1' := hS.cell mR (i := 1) rfl
        dsimp only at r1'
        by_cases hlt : k < q
        · have t1 : ((k : Int)).toNat = k := by omega
          have t2 : (0 : Int) ≤ (k : Int) := by omega
          have t3 : (k : Int) < (q : Int) := by omega
          have fa1 := hF.at_ (by omega)
          subst fa1
          obtain ⟨fp, hfp0⟩ : ∃ x, (F k).proc = x := ⟨_, rfl⟩
          obtain ⟨fc, hfc0⟩ : ∃ x, (F k).pc = x := ⟨_, rfl⟩
          obtain ⟨nv, hnv0⟩ : ∃ x, (F k).nv = x := ⟨_, rfl⟩
          obtain ⟨nc, hnc0⟩ : ∃ x, (F k).nc = x := ⟨_, rfl⟩
          obtain ⟨va, hva0⟩ : ∃ x, (R k).v.a = x := ⟨_, rfl⟩
          obtain ⟨vc, hvc0⟩ : ∃ x, (R k).v.cap = x := ⟨_, rfl⟩
          obtain ⟨ca, hca0⟩ : ∃ x, (R k).c.a = x := ⟨_, rfl⟩
          obtain ⟨cc, hcc0⟩ : ∃ x, (R k).c.cap = x := ⟨_, rfl⟩
          have V0 := hF.vs k hlt
          have C0 := hF.cs k hlt
          have hn' := hn k hlt
          rw [hnv0, hva0] at V0
          rw [hnc0, hca0] at C0
          rw [hnv0, hnc0] at hn'
          obtain ⟨hn1, hn2⟩ := hn'
          obtain ⟨x0, x1, x2, x3, x4, x5, x6, x7, hx⟩ : ∃ x0 x1 x2 x3 x4 x5 x6 x7, AtV P m fp fc = .agg #[.int .i64 x0, .int .i64 x1, .int .i64 x2, .int .i64 x3, .int .i64 x4, .int .i64 x5, .int .i64 x6, .int .i64 x7] := ⟨_, _, _, _, _, _, _, _, rfl⟩
          have hx' := hx
          simp only [AtV, Value.agg.injEq, Array.mk.injEq, List.cons.injEq, Value.int.injEq, true_and, and_true] at hx'
          obtain ⟨hx0, -, -, -, -, -, -, hx7⟩ := hx'
          obtain ⟨t, ht⟩ : ∃ t, atB P m fp fc = t := ⟨_, rfl⟩
          have hxS : Hid (AtV P m fp fc = .agg #[.int .i64 x0, .int .i64 x1, .int .i64 x2, .int .i64 x3, .int .i64 x4, .int .i64 x5, .int .i64 x6, .int .i64 x7]) := hx
          have htS : Hid (atB P m fp fc = t) := ht
          obtain ⟨fok, hfok0⟩ : ∃ t, (atB P m fp fc && four (F k).v nv && four (F k).c nc) = t := ⟨_, rfl⟩
          have hfok : Hid ((atB P m fp fc && four (F k).v nv && four (F k).c nc) = fok) := hfok0
          have hcall : Hid (callB P m F q k = (fok && (!decide (k + 1 < q) || (x0 == 10 && x7 == (F (k + 1)).proc)))) := by
            show (frmOk P m (F k) && linkB P m F q k) = _
            simp only [frmOk, linkB, hfp0, hfc0, hnv0, hnc0, hx0, hx7, hfok0]
          have hfp : Hid ((F k).proc = fp) := hfp0
          have hfc : Hid ((F k).pc = fc) := hfc0
          have hnv : Hid ((F k).nv = nv) := hnv0
          have hnc : Hid ((F k).nc = nc) := hnc0
          have hva : Hid ((R k).v.a = va) := hva0
          have hvc : Hid ((R k).v.cap = vc) := hvc0
          have hca : Hid ((R k).c.a = ca) := hca0
          have hcc : Hid ((R k).c.cap = cc) := hcc0
          clear hx hx0 hx7 ht hfp0 hfc0 hnv0 hnc0 hva0 hvc0 hca0 hcc0 hfok0
          have hS0 := hS.drew
          clear hS
          go_wp2_with fail
          refine region_inv3 [(0, 87), (1, 88), (2, 89), (3, 90), (4, 91), (5, 92), (6, 93), (7, 94)]
            (fun j vx _ => match j with
              | 0 => Is (.agg #[.slice a m cap]) vx
              | 1 => Is (.pointer (some ⟨w.heap.size + 1, 1, none⟩)) vx
              | 2 => Is (.slice (some ⟨fb, fo, none⟩) q fcap) vx
              | 3 => Is (.int .i64 k) vx
              | 4 => Is (.pointer (some ⟨fb, fo + k * 4, none⟩)) vx
              | 5 => Is (.agg #[.int .i64 fp, .int .i64 fc, .slice va nv vc, .slice ca nc cc]) vx
              | 6 => Is (.bool fok) vx
              | 7 => Is (.bool (!fok)) vx
              | _ => True)
            (fun _ W => HeldL w Lb W) TT
            (by kernel_rfl) (by kernel_rfl) (by kernel_rfl) (by kernel_rfl) (by kernel_rfl) rfl hS0 (fun i j v W W' _ h _ => h) ?_ ?_
          · intro i L vals W hi' hφ hS hL hd
            have hi2 : i < 8 := hi'
            clear hi'
            rcases (show i = 0 ∨ i = 1 ∨ i = 2 ∨ i = 3 ∨ i = 4 ∨ i = 5 ∨ i = 6 ∨ i = 7 by omega) with rfl | rfl | rfl | rfl | rfl | rfl | rfl | rfl
            · have c0 := HeldL.cell hS mP (i := 0) rfl
              dsimp only at c0
              refine wpAt_of rfl rfl ?_
              simp only [frOf, Act.put]
              go_wp2_with fail
              first | exact ⟨trivial, rfl, trivial, hS⟩ | exact ⟨rfl, trivial, hS⟩
            · refine wpAt_of rfl rfl ?_
              simp only [frOf, Act.put]
              go_wp2_with fail
              first | exact ⟨trivial, rfl, trivial, hS⟩ | exact ⟨rfl, trivial, hS⟩
            · have k1 : vals 1 = .pointer (some ⟨w.heap.size + 1, 1, none⟩) := hφ 1 (hd 1 (by decide))
              have c1 := HeldL.cell hS mR (i := 1) rfl
              dsimp only at c1
              refine wpAt_of rfl rfl ?_
              simp only [frOf, Act.put]
              go_wp2_with fail
              first | exact ⟨trivial, rfl, trivial, hS⟩ | exact ⟨rfl, trivial, hS⟩
            · refine wpAt_of rfl rfl ?_
              simp only [frOf, Act.put]
              go_wp2_with fail
              first | exact ⟨trivial, rfl, trivial, hS⟩ | exact ⟨rfl, trivial, hS⟩
            · have k2 : vals 2 = .slice (some ⟨fb, fo, none⟩) q fcap := hφ 2 (hd 2 (by decide))
              have k3 : vals 3 = .int .i64 k := hφ 3 (hd 3 (by decide))
              refine wpAt_of rfl rfl ?_
              simp only [frOf, Act.put]
              go_wp2_with fail
              first | exact ⟨trivial, rfl, trivial, hS⟩ | exact ⟨rfl, trivial, hS⟩
            · have k4 : vals 4 = .pointer (some ⟨fb, fo + k * 4, none⟩) := hφ 4 (hd 4 (by decide))
              have F1 := hF.next (HeldL.below hS)
              have d0 := F1.proc k hlt
              have d1 := F1.pc k hlt
              have d2 := F1.vars k hlt
              have d3 := F1.cells k hlt
              rw [hfp.out] at d0
              rw [hfc.out] at d1
              rw [hnv.out, hva.out, hvc.out] at d2
              rw [hnc.out, hca.out, hcc.out] at d3
              clear F1
              refine wpAt_of rfl rfl ?_
              simp only [frOf, Act.put]
              go_wp2_with fail
              first | exact ⟨trivial, rfl, trivial, hS⟩ | exact ⟨rfl, trivial, hS⟩
            · have k0 : vals 0 = .agg #[.slice a m cap] := hφ 0 (hd 0 (by decide))
              have k5 : vals 5 = .agg #[.int .i64 fp, .int .i64 fc, .slice va nv vc, .slice ca nc cc] := hφ 5 (hd 5 (by decide))
              refine wpAt_of rfl rfl ?_
              simp only [frOf, Act.put]
              go_wp2_with fail
              refine (frmS _ _ _ _ _ _ _ _ _ _ _ _ _ _ _ _ _ _ _ _ _ fok _ hm hn1 hn2 (hP.next (HeldL.below hS)) (V0.next (HeldL.below hS)) (C0.next (HeldL.below hS)) hfok.out).mono ?_
              rintro e W' ⟨rfl, hb⟩
              go_wp2_with fail
              first | exact ⟨trivial, rfl, trivial, HeldL.next hb hS⟩ | exact ⟨rfl, trivial, HeldL.next hb hS⟩
            · have k6 : vals 6 = .bool fok := hφ 6 (hd 6 (by decide))
              refine wpAt_of rfl rfl ?_
              simp only [frOf, Act.put]
              go_wp2_with fail
              first | exact ⟨trivial, rfl, trivial, hS⟩ | exact ⟨rfl, trivial, hS⟩
          · intro L vals W hall hφ hS
            have k0 : vals 0 = .agg #[.slice a m cap] := hφ 0 (by decide)
            have k1 : vals 1 = .pointer (some ⟨w.heap.size + 1, 1, none⟩) := hφ 1 (by decide)
            have k2 : vals 2 = .slice (some ⟨fb, fo, none⟩) q fcap := hφ 2 (by decide)
            have k3 : vals 3 = .int .i64 k := hφ 3 (by decide)
            have k4 : vals 4 = .pointer (some ⟨fb, fo + k * 4, none⟩) := hφ 4 (by decide)
            have k5 : vals 5 = .agg #[.int .i64 fp, .int .i64 fc, .slice va nv vc, .slice ca nc cc] := hφ 5 (by decide)
            have k6 : vals 6 = .bool fok := hφ 6 (by decide)
            have k7 : vals 7 = .bool (!fok) := hφ 7 (by decide)
            simp only [frOf, Act.put, List.setIfInBounds_toArray, List.set_cons_succ, List.set_cons_zero, k0, k1, k2, k3, k4, k5, k6, k7]
            clear k0 k1 k2 k3 k4 k5 k6 k7
            clear hall hφ hS0 r1'
            cases fok
            · have hbS : Hid (callsB P m F q q = false) := callsB_false hlt (by rw [hcall.out]; simp)
              go_wp2_with fail
              go_ret
              exact ⟨ret_bool (by rw [hR.out, hbS.out]; simp), hS.below⟩
            have hN1 : ∀ e ∈ Lb, e.1 < W.heap.size := fun e he => hS.size he
            have hwN : w.heap.size ≤ W.heap.size := hS.below.size
            obtain ⟨N, hN⟩ : ∃ N, N = W.heap.size := ⟨_, rfl⟩
            rw [← hN] at hN1 hwN
            have hN0 : N ≤ W.drew.heap.size := by rw [hN]; exact Nat.le_refl _
            have hS0 := hS.drew
            clear hS hN
            go_wp2_with fail
            refine region_inv4 [(0, 96), (1, 97), (2, 98), (3, 99), (4, 100), (5, 101), (6, 102), (7, 103), (8, 104), (9, 105), (10, 106), (11, 107), (12, 108), (13, 109), (14, 95), (15, 110), (16, 111), (17, 8), (19, 9)]
              (fun j vx => match j with
                | 0 => Is (.agg #[.slice a m cap]) vx
                | 1 => Is (.pointer (some ⟨w.heap.size + 1, 1, none⟩)) vx
                | 2 => Is (.slice (some ⟨fb, fo, none⟩) q fcap) vx
                | 3 => Is (.int .i64 k) vx
                | 4 => Is (.pointer (some ⟨fb, fo + k * 4, none⟩)) vx
                | 5 => Is (.pointer (some ⟨fb, fo + k * 4, none⟩)) vx
                | 6 => Is (.int .i64 fp) vx
                | 7 => Is (.pointer (some ⟨w.heap.size + 1, 1, none⟩)) vx
                | 8 => Is (.slice (some ⟨fb, fo, none⟩) q fcap) vx
                | 9 => Is (.int .i64 k) vx
                | 10 => Is (.pointer (some ⟨fb, fo + k * 4, none⟩)) vx
                | 11 => Is (.pointer (some ⟨fb, fo + k * 4 + 1, none⟩)) vx
                | 12 => Is (.int .i64 fc) vx
                | 13 => Is (.tuple #[.agg #[.int .i64 x0, .int .i64 x1, .int .i64 x2, .int .i64 x3, .int .i64 x4, .int .i64 x5, .int .i64 x6, .int .i64 x7], .bool t]) vx
                | 14 => Is (.tuple #[.agg #[.int .i64 x0, .int .i64 x1, .int .i64 x2, .int .i64 x3, .int .i64 x4, .int .i64 x5, .int .i64 x6, .int .i64 x7], .bool t]) vx
                | 15 => Is (.agg #[.int .i64 x0, .int .i64 x1, .int .i64 x2, .int .i64 x3, .int .i64 x4, .int .i64 x5, .int .i64 x6, .int .i64 x7]) vx
                | 16 => Is (.bool t) vx
                | 19 => Is (.bool t) vx
                | _ => True)
              (fun L vals W => HeldL w Lb W ∧ NewL N [.int .i64 x0, .int .i64 x1, .int .i64 x2, .int .i64 x3, .int .i64 x4, .int .i64 x5, .int .i64 x6, .int .i64 x7] 17 18 L vals W)
              (by kernel_rfl) (by kernel_rfl) (by kernel_rfl) (by kernel_rfl) (by kernel_rfl) rfl (fun _ => ⟨hS0, NewL.start hN0⟩) ?_ ?_
            · intro i L vals W hi' hφ hSS hL hd
              have hi2 : i < 20 := hi'
              obtain ⟨hS, hB⟩ := hSS
              clear hi'
              rcases (show i = 0 ∨ i = 1 ∨ i = 2 ∨ i = 3 ∨ i = 4 ∨ i = 5 ∨ i = 6 ∨ i = 7 ∨ i = 8 ∨ i = 9 ∨ i = 10 ∨ i = 11 ∨ i = 12 ∨ i = 13 ∨ i = 14 ∨ i = 15 ∨ i = 16 ∨ i = 17 ∨ i = 18 ∨ i = 19 by omega) with rfl | rfl | rfl | rfl | rfl | rfl | rfl | rfl | rfl | rfl | rfl | rfl | rfl | rfl | rfl | rfl | rfl | rfl | rfl | rfl
              · have c0 := HeldL.cell hS mP (i := 0) rfl
                dsimp only at c0
                refine wpAt_of rfl rfl ?_
                simp only [frOf, Act.put]
                go_wp2_with fail
                first | exact ⟨trivial, rfl, hS, hB.pure (by decide) (by decide)⟩ | exact ⟨rfl, hS, hB.pure (by decide) (by decide)⟩
              · refine wpAt_of rfl rfl ?_
                simp only [frOf, Act.put]
                go_wp2_with fail
                first | exact ⟨trivial, rfl, hS, hB.pure (by decide) (by decide)⟩ | exact ⟨rfl, hS, hB.pure (by decide) (by decide)⟩
              · have k1 : vals 1 = .pointer (some ⟨w.heap.size + 1, 1, none⟩) := hφ 1 (hd 1 (by decide))
                have c1 := HeldL.cell hS mR (i := 1) rfl
                dsimp only at c1
                refine wpAt_of rfl rfl ?_
                simp only [frOf, Act.put]
                go_wp2_with fail
                first | exact ⟨trivial, rfl, hS, hB.pure (by decide) (by decide)⟩ | exact ⟨rfl, hS, hB.pure (by decide) (by decide)⟩
              · refine wpAt_of rfl rfl ?_
                simp only [frOf, Act.put]
                go_wp2_with fail
                first | exact ⟨trivial, rfl, hS, hB.pure (by decide) (by decide)⟩ | exact ⟨rfl, hS, hB.pure (by decide) (by decide)⟩
              · have k2 : vals 2 = .slice (some ⟨fb, fo, none⟩) q fcap := hφ 2 (hd 2 (by decide))
                have k3 : vals 3 = .int .i64 k := hφ 3 (hd 3 (by decide))
                refine wpAt_of rfl rfl ?_
                simp only [frOf, Act.put]
                go_wp2_with fail
                first | exact ⟨trivial, rfl, hS, hB.pure (by decide) (by decide)⟩ | exact ⟨rfl, hS, hB.pure (by decide) (by decide)⟩
              · have k4 : vals 4 = .pointer (some ⟨fb, fo + k * 4, none⟩) := hφ 4 (hd 4 (by decide))
                refine wpAt_of rfl rfl ?_
                simp only [frOf, Act.put]
                go_wp2_with fail
                first | exact ⟨trivial, rfl, hS, hB.pure (by decide) (by decide)⟩ | exact ⟨rfl, hS, hB.pure (by decide) (by decide)⟩
              · have k5 : vals 5 = .pointer (some ⟨fb, fo + k * 4, none⟩) := hφ 5 (hd 5 (by decide))
                have F1 := hF.next (HeldL.below hS)
                have d0 := F1.proc k hlt
                have d1 := F1.pc k hlt
                have d2 := F1.vars k hlt
                have d3 := F1.cells k hlt
                rw [hfp.out] at d0
                rw [hfc.out] at d1
                rw [hnv.out, hva.out, hvc.out] at d2
                rw [hnc.out, hca.out, hcc.out] at d3
                clear F1
                refine wpAt_of rfl rfl ?_
                simp only [frOf, Act.put]
                go_wp2_with fail
                first | exact ⟨trivial, rfl, hS, hB.pure (by decide) (by decide)⟩ | exact ⟨rfl, hS, hB.pure (by decide) (by decide)⟩
              · refine wpAt_of rfl rfl ?_
                simp only [frOf, Act.put]
                go_wp2_with fail
                first | exact ⟨trivial, rfl, hS, hB.pure (by decide) (by decide)⟩ | exact ⟨rfl, hS, hB.pure (by decide) (by decide)⟩
              · have k7 : vals 7 = .pointer (some ⟨w.heap.size + 1, 1, none⟩) := hφ 7 (hd 7 (by decide))
                have c1 := HeldL.cell hS mR (i := 1) rfl
                dsimp only at c1
                refine wpAt_of rfl rfl ?_
                simp only [frOf, Act.put]
                go_wp2_with fail
                first | exact ⟨trivial, rfl, hS, hB.pure (by decide) (by decide)⟩ | exact ⟨rfl, hS, hB.pure (by decide) (by decide)⟩
              · refine wpAt_of rfl rfl ?_
                simp only [frOf, Act.put]
                go_wp2_with fail
                first | exact ⟨trivial, rfl, hS, hB.pure (by decide) (by decide)⟩ | exact ⟨rfl, hS, hB.pure (by decide) (by decide)⟩
              · have k8 : vals 8 = .slice (some ⟨fb, fo, none⟩) q fcap := hφ 8 (hd 8 (by decide))
                have k9 : vals 9 = .int .i64 k := hφ 9 (hd 9 (by decide))
                refine wpAt_of rfl rfl ?_
                simp only [frOf, Act.put]
                go_wp2_with fail
                first | exact ⟨trivial, rfl, hS, hB.pure (by decide) (by decide)⟩ | exact ⟨rfl, hS, hB.pure (by decide) (by decide)⟩
              · have k10 : vals 10 = .pointer (some ⟨fb, fo + k * 4, none⟩) := hφ 10 (hd 10 (by decide))
                refine wpAt_of rfl rfl ?_
                simp only [frOf, Act.put]
                go_wp2_with fail
                first | exact ⟨trivial, rfl, hS, hB.pure (by decide) (by decide)⟩ | exact ⟨rfl, hS, hB.pure (by decide) (by decide)⟩
              · have k11 : vals 11 = .pointer (some ⟨fb, fo + k * 4 + 1, none⟩) := hφ 11 (hd 11 (by decide))
                have F1 := hF.next (HeldL.below hS)
                have d0 := F1.proc k hlt
                have d1 := F1.pc k hlt
                have d2 := F1.vars k hlt
                have d3 := F1.cells k hlt
                rw [hfp.out] at d0
                rw [hfc.out] at d1
                rw [hnv.out, hva.out, hvc.out] at d2
                rw [hnc.out, hca.out, hcc.out] at d3
                clear F1
                refine wpAt_of rfl rfl ?_
                simp only [frOf, Act.put]
                go_wp2_with fail
                first | exact ⟨trivial, rfl, hS, hB.pure (by decide) (by decide)⟩ | exact ⟨rfl, hS, hB.pure (by decide) (by decide)⟩
              · have k0 : vals 0 = .agg #[.slice a m cap] := hφ 0 (hd 0 (by decide))
                have k6 : vals 6 = .int .i64 fp := hφ 6 (hd 6 (by decide))
                have k12 : vals 12 = .int .i64 fc := hφ 12 (hd 12 (by decide))
                refine wpAt_of rfl rfl ?_
                simp only [frOf, Act.put]
                go_wp2_with fail
                refine (atS8 _ _ _ _ _ _ _ _ _ x0 x1 x2 x3 x4 x5 x6 x7 t _ hm (hP.next (HeldL.below hS)) hxS.out htS.out).mono ?_
                rintro e W' ⟨rfl, hb⟩
                go_wp2_with fail
                first | exact ⟨trivial, rfl, HeldL.next hb hS, hB.next hb (by decide) (by decide)⟩ | exact ⟨rfl, HeldL.next hb hS, hB.next hb (by decide) (by decide)⟩
              · have k13 : vals 13 = .tuple #[.agg #[.int .i64 x0, .int .i64 x1, .int .i64 x2, .int .i64 x3, .int .i64 x4, .int .i64 x5, .int .i64 x6, .int .i64 x7], .bool t] := hφ 13 (hd 13 (by decide))
                refine wpAt_of rfl rfl ?_
                simp only [frOf, Act.put]
                go_wp2_with fail
                first | exact ⟨trivial, rfl, hS, hB.pure (by decide) (by decide)⟩ | exact ⟨rfl, hS, hB.pure (by decide) (by decide)⟩
              · have k14 : vals 14 = .tuple #[.agg #[.int .i64 x0, .int .i64 x1, .int .i64 x2, .int .i64 x3, .int .i64 x4, .int .i64 x5, .int .i64 x6, .int .i64 x7], .bool t] := hφ 14 (hd 14 (by decide))
                refine wpAt_of rfl rfl ?_
                simp only [frOf, Act.put]
                go_wp2_with fail
                first | exact ⟨trivial, rfl, hS, hB.pure (by decide) (by decide)⟩ | exact ⟨rfl, hS, hB.pure (by decide) (by decide)⟩
              · have k14 : vals 14 = .tuple #[.agg #[.int .i64 x0, .int .i64 x1, .int .i64 x2, .int .i64 x3, .int .i64 x4, .int .i64 x5, .int .i64 x6, .int .i64 x7], .bool t] := hφ 14 (hd 14 (by decide))
                refine wpAt_of rfl rfl ?_
                simp only [frOf, Act.put]
                go_wp2_with fail
                first | exact ⟨trivial, rfl, hS, hB.pure (by decide) (by decide)⟩ | exact ⟨rfl, hS, hB.pure (by decide) (by decide)⟩
              · refine wpAt_of rfl rfl ?_
                simp only [frOf, Act.put]
                go_wp2_with fail
                first | exact ⟨trivial, trivial, HeldL.alloc _ hS, hB.made hL (by decide) rfl⟩ | exact ⟨trivial, HeldL.alloc _ hS, hB.made hL (by decide) rfl⟩ | exact ⟨HeldL.alloc _ hS, hB.made hL (by decide) rfl⟩
              · have k15 : vals 15 = .agg #[.int .i64 x0, .int .i64 x1, .int .i64 x2, .int .i64 x3, .int .i64 x4, .int .i64 x5, .int .i64 x6, .int .i64 x7] := hφ 15 (hd 15 (by decide))
                have hLp := hd 17 (by decide)
                obtain ⟨b, kb, hb1, hb2, hbf, hcc, _⟩ := hB.2.2 hLp
                obtain ⟨u0, c0⟩ := hcc 0 (by simp)
                obtain ⟨u1, c1⟩ := hcc 1 (by simp)
                obtain ⟨u2, c2⟩ := hcc 2 (by simp)
                obtain ⟨u3, c3⟩ := hcc 3 (by simp)
                obtain ⟨u4, c4⟩ := hcc 4 (by simp)
                obtain ⟨u5, c5⟩ := hcc 5 (by simp)
                obtain ⟨u6, c6⟩ := hcc 6 (by simp)
                obtain ⟨u7, c7⟩ := hcc 7 (by simp)
                clear hcc
                refine wpAt_none rfl rfl ?_
                simp only [frOf, Act.put]
                go_wp2_with fail
                first | exact ⟨trivial, trivial, HeldL.setAll (W := W) hN1 hwN hb1 [.int .i64 x0, .int .i64 x1, .int .i64 x2, .int .i64 x3, .int .i64 x4, .int .i64 x5, .int .i64 x6, .int .i64 x7] 0 hS, hB.set hLp kb (by decide)⟩ | exact ⟨trivial, HeldL.setAll (W := W) hN1 hwN hb1 [.int .i64 x0, .int .i64 x1, .int .i64 x2, .int .i64 x3, .int .i64 x4, .int .i64 x5, .int .i64 x6, .int .i64 x7] 0 hS, hB.set hLp kb (by decide)⟩ | exact ⟨HeldL.setAll (W := W) hN1 hwN hb1 [.int .i64 x0, .int .i64 x1, .int .i64 x2, .int .i64 x3, .int .i64 x4, .int .i64 x5, .int .i64 x6, .int .i64 x7] 0 hS, hB.set hLp kb (by decide)⟩
              · have k16 : vals 16 = .bool t := hφ 16 (hd 16 (by decide))
                refine wpAt_of rfl rfl ?_
                simp only [frOf, Act.put]
                go_wp2_with fail
                first | exact ⟨trivial, rfl, hS, hB.pure (by decide) (by decide)⟩ | exact ⟨rfl, hS, hB.pure (by decide) (by decide)⟩
            · intro L vals W hall hφ hSS
              obtain ⟨hS, hB⟩ := hSS
              have k0 : vals 0 = .agg #[.slice a m cap] := hφ 0 (by decide)
              have k1 : vals 1 = .pointer (some ⟨w.heap.size + 1, 1, none⟩) := hφ 1 (by decide)
              have k2 : vals 2 = .slice (some ⟨fb, fo, none⟩) q fcap := hφ 2 (by decide)
              have k3 : vals 3 = .int .i64 k := hφ 3 (by decide)
              have k4 : vals 4 = .pointer (some ⟨fb, fo + k * 4, none⟩) := hφ 4 (by decide)
              have k5 : vals 5 = .pointer (some ⟨fb, fo + k * 4, none⟩) := hφ 5 (by decide)
              have k6 : vals 6 = .int .i64 fp := hφ 6 (by decide)
              have k7 : vals 7 = .pointer (some ⟨w.heap.size + 1, 1, none⟩) := hφ 7 (by decide)
              have k8 : vals 8 = .slice (some ⟨fb, fo, none⟩) q fcap := hφ 8 (by decide)
              have k9 : vals 9 = .int .i64 k := hφ 9 (by decide)
              have k10 : vals 10 = .pointer (some ⟨fb, fo + k * 4, none⟩) := hφ 10 (by decide)
              have k11 : vals 11 = .pointer (some ⟨fb, fo + k * 4 + 1, none⟩) := hφ 11 (by decide)
              have k12 : vals 12 = .int .i64 fc := hφ 12 (by decide)
              have k13 : vals 13 = .tuple #[.agg #[.int .i64 x0, .int .i64 x1, .int .i64 x2, .int .i64 x3, .int .i64 x4, .int .i64 x5, .int .i64 x6, .int .i64 x7], .bool t] := hφ 13 (by decide)
              have k14 : vals 14 = .tuple #[.agg #[.int .i64 x0, .int .i64 x1, .int .i64 x2, .int .i64 x3, .int .i64 x4, .int .i64 x5, .int .i64 x6, .int .i64 x7], .bool t] := hφ 14 (by decide)
              have k15 : vals 15 = .agg #[.int .i64 x0, .int .i64 x1, .int .i64 x2, .int .i64 x3, .int .i64 x4, .int .i64 x5, .int .i64 x6, .int .i64 x7] := hφ 15 (by decide)
              have k16 : vals 16 = .bool t := hφ 16 (by decide)
              have k19 : vals 19 = .bool t := hφ 19 (by decide)
              obtain ⟨b, k17, hb1, hb2, hbf, _, hc⟩ := hB.2.2 (hall 17 (by decide))
              have hcs := hc (hall 18 (by decide))
              simp only [frOf, Act.put, List.setIfInBounds_toArray, List.set_cons_succ, List.set_cons_zero, k0, k1, k2, k3, k4, k5, k6, k7, k8, k9, k10, k11, k12, k13, k14, k15, k16, k17, k19]
              clear k0 k1 k2 k3 k4 k5 k6 k7 k8 k9 k10 k11 k12 k13 k14 k15 k16 k17 k19 hB hc hall hφ hS0
              have K10 := HeldL.withNewL hS (Nat.le_trans hwN hb1) hb2 hbf hcs
              obtain ⟨bN, hbN⟩ : ∃ x, x = b := ⟨_, rfl⟩
              rw [← hbN] at K10 ⊢
              clear hbN
              obtain ⟨Lc, hLc⟩ : ∃ L, L = (bN, [Value.int .i64 x0, .int .i64 x1, .int .i64 x2, .int .i64 x3, .int .i64 x4, .int .i64 x5, .int .i64 x6, .int .i64 x7]) :: Lb := ⟨_, rfl⟩
              rw [← hLc] at K10
              have mQ : (bN, [Value.int .i64 x0, .int .i64 x1, .int .i64 x2, .int .i64 x3, .int .i64 x4, .int .i64 x5, .int .i64 x6, .int .i64 x7]) ∈ Lc := by rw [hLc]; simp
              have upL : ∀ e, e ∈ Lb → e ∈ Lc := fun e he => by rw [hLc]; simp [he]
              clear hLc hS hb1 hb2 hbf hcs hN1 hwN hN0
              have r1' := K10.cell (upL _ mR) (i := 1) rfl
              have y0 := K10.cell mQ (i := 0) rfl
              have y7 := K10.cell mQ (i := 7) rfl
              dsimp only at r1' y0 y7
              by_cases hab : k + 1 < q
              · have nx := (hF.next K10.below).proc (k + 1) hab
                have ta : (k : Int) < (q : Int) - 1 := by omega
                have tb : ((k : Int) + 1).toNat = k + 1 := by omega
                have tc : (0 : Int) ≤ (k : Int) + 1 := by omega
                have td : ((k : Int) + 1) < (q : Int) := by omega
                have te : decide ((k : Int) < (q : Int) - 1) = true := decide_eq_true ta
                obtain ⟨np, hnp⟩ : ∃ x, (F (k + 1)).proc = x := ⟨_, rfl⟩
                rw [hnp] at nx
                have hcall2 : Hid (callB P m F q k = (x0 == 10 && x7 == np)) := by rw [hcall.out, hnp, decide_eq_true hab]; rfl
                clear hnp hcall
                by_cases h10 : x0 = 10
                · subst h10
                  by_cases h7 : x7 = np
                  · subst h7
                    have hgood : Hid (callB P m F q k = true) := by show callB P m F q k = true; rw [hcall2.out]; simp
                    clear hcall2
                    go_wp2_with fail
                    go_quiet (fail)
                    go_wp2
                    go_roundw
                    case rel => exact ⟨k + 1, by omega, by go_num, by show (callsB P m F q k && callB P m F q k) = true; rw [hcS.out, hgood.out]; rfl, HeldL.next (below_dn (Below.refl _ _) _) (K10.sub upL)⟩
                    case measure => simp [intOf]; omega
                  · have e7 : (x7 == np) = false := by simp [h7]
                    have e7' : (x7 != np) = true := by simp [h7]
                    have hbS : Hid (callsB P m F q q = false) := callsB_false hlt (by rw [hcall2.out]; simp [e7])
                    clear hcall2
                    go_wp2_with fail
                    go_quiet (fail)
                    go_wp2
                    go_ret
                    exact ⟨ret_bool (by rw [hR.out, hbS.out]; simp), below_dn K10.below _⟩
                · have e10 : (x0 == 10) = false := by simp [h10]
                  have e10' : (x0 != 10) = true := by simp [h10]
                  have hbS : Hid (callsB P m F q q = false) := callsB_false hlt (by rw [hcall2.out]; simp [e10])
                  clear hcall2
                  go_wp2_with fail
                  go_quiet (fail)
                  go_wp2
                  go_ret
                  exact ⟨ret_bool (by rw [hR.out, hbS.out]; simp), below_dn K10.below _⟩
              · have ta : (q : Int) - 1 ≤ (k : Int) := by omega
                have td : decide ((k : Int) < (q : Int) - 1) = false := decide_eq_false (by omega)
                have te : ¬ (k : Int) < (q : Int) - 1 := by omega
                have hgood : Hid (callB P m F q k = true) := by show callB P m F q k = true; rw [hcall.out]; simp [hab]
                clear hcall
                go_wp2_with fail
                go_quiet (fail)
                go_wp2
                go_roundw
                case rel => exact ⟨k + 1, by omega, by go_num, by show (callsB P m F q k && callB P m F q k) = true; rw [hcS.out, hgood.out]; rfl, HeldL.next (below_dn (Below.refl _ _) _) (K10.sub upL)⟩
                case measure => simp [intOf]; omega
        · obtain rfl : k = q := by omega
          have r3' := hS.cell mR (i := 3) rfl
          have r4' := hS.cell mR (i := 4) rfl
          dsimp only at r3' r4'
          by_cases hq0 : k = 0
          · subst hq0
            go_wp2_with fail
            go_ret
            exact ⟨ret_bool (by rw [hR.out]; simp [inB]), hS.below⟩
          · have hq1 : (0 : Int) < (k : Int) := by omega
            have hi5 : inB k 1 5 = true := by simp [inB]; omega
            by_cases h1 : pr = 0
            · subst h1
              by_cases h2 : pc = 0
              · subst h2
                go_wp2_with fail
                go_ret
                exact ⟨ret_bool (by rw [hR.out, hcS.out, hi5]; simp [nowB]), hS.below⟩
              · have e2 : (pc == 0) = false := by simp [h2]
                go_wp2_with fail
                go_ret
                exact ⟨ret_bool (by rw [hR.out]; simp [nowB, e2]), hS.below⟩
            · have e1 : (pr == 0) = false := by simp [h1]
              go_wp2_with fail
              go_ret
              exact ⟨ret_bool (by rw [hR.out]; simp [nowB, e1]), hS.below⟩
    · have ho1 : (out == 0) = false := by simp [ho]
      have ho2 : (out != 0) = true := by simp [ho]
      go_wp2_with fail
      go_ret
      exact ⟨ret_bool (by rw [hR.out]; simp [ho1]), H2.below⟩
  by_cases s2 : st = 2
  · subst s2
    have hR : Hid (runOk P m 2 out pr pc q F = (nowB pr pc && decide (q = 0))) := by show runOk P m 2 out pr pc q F = _; simp [runOk, g1, g2]
    clear g1 g2
    obtain ⟨x0, x1, x2, x3, x4, x5, x6, x7, hx⟩ : ∃ x0 x1 x2 x3 x4 x5 x6 x7, AtV P m pr pc = .agg #[.int .i64 x0, .int .i64 x1, .int .i64 x2, .int .i64 x3, .int .i64 x4, .int .i64 x5, .int .i64 x6, .int .i64 x7] := ⟨_, _, _, _, _, _, _, _, rfl⟩
    have hx' := hx
    simp only [AtV, Value.agg.injEq, Array.mk.injEq, List.cons.injEq, Value.int.injEq, true_and, and_true] at hx'
    obtain ⟨hx0, -⟩ := hx'
    obtain ⟨t, ht⟩ : ∃ t, atB P m pr pc = t := ⟨_, rfl⟩
    have hxS : Hid (AtV P m pr pc = .agg #[.int .i64 x0, .int .i64 x1, .int .i64 x2, .int .i64 x3, .int .i64 x4, .int .i64 x5, .int .i64 x6, .int .i64 x7]) := hx
    have htS : Hid (atB P m pr pc = t) := ht
    have hx0S : Hid (atC P m pr pc 0 = x0) := hx0
    clear hx hx0 ht
    have p0' := H2.cell mP (i := 0) rfl
    have r3' := H2.cell mR (i := 3) rfl
    have r4' := H2.cell mR (i := 4) rfl
    dsimp only at p0' r3' r4'
    go_wp2_with fail
    refine (atS8 _ _ _ _ _ _ _ _ _ x0 x1 x2 x3 x4 x5 x6 x7 t _ hm (hP.next H2.below) hxS.out htS.out).mono ?_
    rintro e w3 ⟨rfl, hb⟩
    have H3 := HeldL.newL (vs := [Value.int .i64 x0, .int .i64 x1, .int .i64 x2, .int .i64 x3, .int .i64 x4, .int .i64 x5, .int .i64 x6, .int .i64 x7]) (t := 34) (H2.next hb)
    clear H2 hb p0' r0' r1' r2' r3' r4'
    have r0' := H3.cell (List.mem_cons_of_mem _ mR) (i := 0) rfl
    have r1' := H3.cell (List.mem_cons_of_mem _ mR) (i := 1) rfl
    have r3' := H3.cell (List.mem_cons_of_mem _ mR) (i := 3) rfl
    have r4' := H3.cell (List.mem_cons_of_mem _ mR) (i := 4) rfl
    have y0' := H3.cell List.mem_cons_self (i := 0) rfl
    dsimp only at r0' r1' r3' r4' y0'
    by_cases hq0 : q = 0
    · subst hq0
      by_cases h1 : pr = 0
      · subst h1
        by_cases h2 : pc = 0
        · subst h2
          go_wp2_with fail
          go_ret
          exact ⟨ret_bool (by rw [hR.out]; simp [nowB]), H3.below⟩
        · have e2 : (pc == 0) = false := by simp [h2]
          go_wp2_with fail
          go_ret
          exact ⟨ret_bool (by rw [hR.out]; simp [nowB, e2]), H3.below⟩
      · have e1 : (pr == 0) = false := by simp [h1]
        go_wp2_with fail
        go_ret
        exact ⟨ret_bool (by rw [hR.out]; simp [nowB, e1]), H3.below⟩
    · have hq2 : ((q : Int) == 0) = false := by simp [hq0]
      go_wp2_with fail
      go_ret
      exact ⟨ret_bool (by rw [hR.out]; simp [hq0]), H3.below⟩
  by_cases s3 : st = 3
  · subst s3
    have hR : Hid (runOk P m 3 out pr pc q F = (out == 0 && (atB P m pr pc && riskB (atC P m pr pc 0)) && decide (q = 0))) := by show runOk P m 3 out pr pc q F = _; simp [runOk, g1, g2]
    clear g1 g2
    by_cases ho : out = 0
    · subst ho
      obtain ⟨x0, x1, x2, x3, x4, x5, x6, x7, hx⟩ : ∃ x0 x1 x2 x3 x4 x5 x6 x7, AtV P m pr pc = .agg #[.int .i64 x0, .int .i64 x1, .int .i64 x2, .int .i64 x3, .int .i64 x4, .int .i64 x5, .int .i64 x6, .int .i64 x7] := ⟨_, _, _, _, _, _, _, _, rfl⟩
      have hx' := hx
      simp only [AtV, Value.agg.injEq, Array.mk.injEq, List.cons.injEq, Value.int.injEq, true_and, and_true] at hx'
      obtain ⟨hx0, -⟩ := hx'
      obtain ⟨t, ht⟩ : ∃ t, atB P m pr pc = t := ⟨_, rfl⟩
      have hxS : Hid (AtV P m pr pc = .agg #[.int .i64 x0, .int .i64 x1, .int .i64 x2, .int .i64 x3, .int .i64 x4, .int .i64 x5, .int .i64 x6, .int .i64 x7]) := hx
      have htS : Hid (atB P m pr pc = t) := ht
      have hx0S : Hid (atC P m pr pc 0 = x0) := hx0
      clear hx hx0 ht
      have p0' := H2.cell mP (i := 0) rfl
      have r3' := H2.cell mR (i := 3) rfl
      have r4' := H2.cell mR (i := 4) rfl
      dsimp only at p0' r3' r4'
      go_wp2_with fail
      refine (atS8 _ _ _ _ _ _ _ _ _ x0 x1 x2 x3 x4 x5 x6 x7 t _ hm (hP.next H2.below) hxS.out htS.out).mono ?_
      rintro e w3 ⟨rfl, hb⟩
      have H3 := HeldL.newL (vs := [Value.int .i64 x0, .int .i64 x1, .int .i64 x2, .int .i64 x3, .int .i64 x4, .int .i64 x5, .int .i64 x6, .int .i64 x7]) (t := 34) (H2.next hb)
      clear H2 hb p0' r0' r1' r2' r3' r4'
      have r0' := H3.cell (List.mem_cons_of_mem _ mR) (i := 0) rfl
      have r1' := H3.cell (List.mem_cons_of_mem _ mR) (i := 1) rfl
      have r3' := H3.cell (List.mem_cons_of_mem _ mR) (i := 3) rfl
      have r4' := H3.cell (List.mem_cons_of_mem _ mR) (i := 4) rfl
      have y0' := H3.cell List.mem_cons_self (i := 0) rfl
      dsimp only at r0' r1' r3' r4' y0'
      by_cases hq0 : q = 0
      · subst hq0
        cases t
        · go_wp2_with fail
          go_ret
          exact ⟨ret_bool (by rw [hR.out, htS.out]; simp), H3.below⟩
        · go_wp2_with fail
          refine (riskS _ _).mono ?_
          rintro e w4 ⟨rfl, rfl⟩
          go_wp2_with fail
          go_ret
          exact ⟨ret_bool (by rw [hR.out, htS.out, hx0S.out]; simp), H3.below⟩
      · have hq2 : ((q : Int) == 0) = false := by simp [hq0]
        go_wp2_with fail
        go_ret
        exact ⟨ret_bool (by rw [hR.out]; simp [hq0]), H3.below⟩
    · have ho1 : (out == 0) = false := by simp [ho]
      have ho2 : (out != 0) = true := by simp [ho]
      go_wp2_with fail
      go_ret
      exact ⟨ret_bool (by rw [hR.out]; simp [ho1]), H2.below⟩
  by_cases s4 : st = 4
  · subst s4
    have hR : Hid (runOk P m 4 out pr pc q F = (out == 0 && nowB pr pc && decide (q = 0))) := by show runOk P m 4 out pr pc q F = _; simp [runOk, g1, g2]
    clear g1 g2
    by_cases ho : out = 0
    · subst ho
      obtain ⟨x0, x1, x2, x3, x4, x5, x6, x7, hx⟩ : ∃ x0 x1 x2 x3 x4 x5 x6 x7, AtV P m pr pc = .agg #[.int .i64 x0, .int .i64 x1, .int .i64 x2, .int .i64 x3, .int .i64 x4, .int .i64 x5, .int .i64 x6, .int .i64 x7] := ⟨_, _, _, _, _, _, _, _, rfl⟩
      have hx' := hx
      simp only [AtV, Value.agg.injEq, Array.mk.injEq, List.cons.injEq, Value.int.injEq, true_and, and_true] at hx'
      obtain ⟨hx0, -⟩ := hx'
      obtain ⟨t, ht⟩ : ∃ t, atB P m pr pc = t := ⟨_, rfl⟩
      have hxS : Hid (AtV P m pr pc = .agg #[.int .i64 x0, .int .i64 x1, .int .i64 x2, .int .i64 x3, .int .i64 x4, .int .i64 x5, .int .i64 x6, .int .i64 x7]) := hx
      have htS : Hid (atB P m pr pc = t) := ht
      have hx0S : Hid (atC P m pr pc 0 = x0) := hx0
      clear hx hx0 ht
      have p0' := H2.cell mP (i := 0) rfl
      have r3' := H2.cell mR (i := 3) rfl
      have r4' := H2.cell mR (i := 4) rfl
      dsimp only at p0' r3' r4'
      go_wp2_with fail
      refine (atS8 _ _ _ _ _ _ _ _ _ x0 x1 x2 x3 x4 x5 x6 x7 t _ hm (hP.next H2.below) hxS.out htS.out).mono ?_
      rintro e w3 ⟨rfl, hb⟩
      have H3 := HeldL.newL (vs := [Value.int .i64 x0, .int .i64 x1, .int .i64 x2, .int .i64 x3, .int .i64 x4, .int .i64 x5, .int .i64 x6, .int .i64 x7]) (t := 34) (H2.next hb)
      clear H2 hb p0' r0' r1' r2' r3' r4'
      have r0' := H3.cell (List.mem_cons_of_mem _ mR) (i := 0) rfl
      have r1' := H3.cell (List.mem_cons_of_mem _ mR) (i := 1) rfl
      have r3' := H3.cell (List.mem_cons_of_mem _ mR) (i := 3) rfl
      have r4' := H3.cell (List.mem_cons_of_mem _ mR) (i := 4) rfl
      have y0' := H3.cell List.mem_cons_self (i := 0) rfl
      dsimp only at r0' r1' r3' r4' y0'
      by_cases hq0 : q = 0
      · subst hq0
        by_cases h1 : pr = 0
        · subst h1
          by_cases h2 : pc = 0
          · subst h2
            go_wp2_with fail
            go_ret
            exact ⟨ret_bool (by rw [hR.out]; simp [nowB]), H3.below⟩
          · have e2 : (pc == 0) = false := by simp [h2]
            go_wp2_with fail
            go_ret
            exact ⟨ret_bool (by rw [hR.out]; simp [nowB, e2]), H3.below⟩
        · have e1 : (pr == 0) = false := by simp [h1]
          go_wp2_with fail
          go_ret
          exact ⟨ret_bool (by rw [hR.out]; simp [nowB, e1]), H3.below⟩
      · have hq2 : ((q : Int) == 0) = false := by simp [hq0]
        go_wp2_with fail
        go_ret
        exact ⟨ret_bool (by rw [hR.out]; simp [hq0]), H3.below⟩
    · have ho1 : (out == 0) = false := by simp [ho]
      have ho2 : (out != 0) = true := by simp [ho]
      go_wp2_with fail
      go_ret
      exact ⟨ret_bool (by rw [hR.out]; simp [ho1]), H2.below⟩
  exfalso
  simp [inB] at g0
  omega
end Go.Proofs.Ytndedplmcjfgeaa
