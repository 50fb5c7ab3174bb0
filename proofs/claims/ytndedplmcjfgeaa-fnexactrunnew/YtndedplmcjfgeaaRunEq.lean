/- Runs held against each other: what the laws' eq.. functions answer of two copies of one run. -/
import Derived.Test.YtndedplmcjfgeaaRunTo2
import Derived.Test.YtndedplmcjfgeaaRegInv
import Derived.Test.YtndedplmcjfgeaaDrawIs
import Derived.Deep.QuietTactic
import Derived.BigQuiet
namespace Go.Proofs.Ytndedplmcjfgeaa
open Go.ChangeShapes Go.WideShapes Go.ChangeAt Go.RowKit

set_option maxHeartbeats 2000000 in
theorem eqIntsA (g h n : Nat) (z : Nat → Int) (w : World) (hbig : n ≤ 1048576) (ha : IntsAt (some ⟨g, 0, none⟩) g 0 n z w) (hb : IntsAt (some ⟨h, 0, none⟩) h 0 n z w) :
    Calls Try.prog 34 #[.slice (some ⟨g, 0, none⟩) n n, .slice (some ⟨h, 0, none⟩) n n] w fun e w' => e = .returned (.bool true) ∧ Below w.heap.size w w' := by
  go_enter Try.func34, Try.ntmps34
  go_wp2
  go_loopw [5] (fun i wr => ∃ k : Nat, k ≤ n ∧ i = .int .i64 k ∧ Below w.heap.size w wr) (fun i _ => n - (intOf i).toNat)
  case atStart => exact ⟨0, Nat.zero_le _, rfl, Below.refl _ _⟩
  case round =>
    obtain ⟨k, hk, rfl, hB⟩ := hrel
    by_cases hlt : k < n
    · have c1 := (ha.next hB).cell k hlt
      have c2 := (hb.next hB).cell k hlt
      rw [Nat.zero_add] at c1 c2
      have t1 : ((k : Int)).toNat = k := by omega
      have t2 : (0 : Int) ≤ (k : Int) := by omega
      have t3 : (k : Int) < (n : Int) := by omega
      clear ha hb
      generalize z k = x at c1 c2
      go_wp2_with fail
      go_quiet (fail)
      go_wp2
      go_roundw
      case rel => exact ⟨k + 1, by omega, by go_num, below_dn hB _⟩
      case measure => simp [intOf]; omega
    · obtain rfl : k = n := by omega
      go_wp2
      go_ret
      exact ⟨rfl, hB⟩
set_option maxHeartbeats 2000000 in
theorem eqFrm (proc pc : Int) (g h n : Nat) (z : Nat → Int) (g' h' n' : Nat) (z' : Nat → Int) (w : World) (hn : n ≤ 1048576) (hn' : n' ≤ 1048576) (h1 : IntsAt (some ⟨g, 0, none⟩) g 0 n z w) (h2 : IntsAt (some ⟨h, 0, none⟩) h 0 n z w) (h1' : IntsAt (some ⟨g', 0, none⟩) g' 0 n' z' w) (h2' : IntsAt (some ⟨h', 0, none⟩) h' 0 n' z' w) :
    Calls Try.prog 78 #[.agg #[.int .i64 proc, .int .i64 pc, .slice (some ⟨g, 0, none⟩) n n, .slice (some ⟨g', 0, none⟩) n' n'], .agg #[.int .i64 proc, .int .i64 pc, .slice (some ⟨h, 0, none⟩) n n, .slice (some ⟨h', 0, none⟩) n' n']] w fun e w' => e = .returned (.bool true) ∧ Below w.heap.size w w' := by
  have H0 : HeldL w [(w.heap.size + 1, [Value.int .i64 proc, .int .i64 pc, .slice (some ⟨h, 0, none⟩) n n, .slice (some ⟨h', 0, none⟩) n' n']), (w.heap.size, [Value.int .i64 proc, .int .i64 pc, .slice (some ⟨g, 0, none⟩) n n, .slice (some ⟨g', 0, none⟩) n' n'])] ((w.alloc (.cells #[.int .i64 proc, .int .i64 pc, .slice (some ⟨g, 0, none⟩) n n, .slice (some ⟨g', 0, none⟩) n' n'] 73)).alloc (.cells #[.int .i64 proc, .int .i64 pc, .slice (some ⟨h, 0, none⟩) n n, .slice (some ⟨h', 0, none⟩) n' n'] 73)) := by
    have e1 : w.heap.size + 1 = (w.alloc (.cells #[.int .i64 proc, .int .i64 pc, .slice (some ⟨g, 0, none⟩) n n, .slice (some ⟨g', 0, none⟩) n' n'] 73)).heap.size := by simp
    rw [e1]
    exact HeldL.newL (vs := [Value.int .i64 proc, .int .i64 pc, .slice (some ⟨h, 0, none⟩) n n, .slice (some ⟨h', 0, none⟩) n' n']) (HeldL.newL (vs := [Value.int .i64 proc, .int .i64 pc, .slice (some ⟨g, 0, none⟩) n n, .slice (some ⟨g', 0, none⟩) n' n']) (HeldL.nil w))
  have I1 := h1.next H0.below
  have I2 := h2.next H0.below
  have J1 := h1'.next H0.below
  have J2 := h2'.next H0.below
  clear h1 h2 h1' h2'
  go_enter Try.func78, Try.ntmps78
  go_wp2_with fail
  refine (eqIntsA _ _ _ _ _ hn I1 I2).mono ?_
  rintro e w1 ⟨rfl, hb⟩
  have H1 := H0.next hb
  have J3 := J1.next hb
  have J4 := J2.next hb
  clear H0 I1 I2 J1 J2 hb
  have a3' := H1.cell (List.mem_cons_of_mem _ List.mem_cons_self) (i := 3) rfl
  have b3' := H1.cell List.mem_cons_self (i := 3) rfl
  dsimp only at a3' b3'
  go_wp2_with fail
  refine (eqIntsA _ _ _ _ _ hn' J3 J4).mono ?_
  rintro e w2 ⟨rfl, hb⟩
  have H2 := H1.next hb
  clear H1 J3 J4 hb a3' b3'
  go_wp2_with fail
  go_ret
  exact ⟨rfl, H2.below⟩
set_option maxRecDepth 10000 in
set_option maxHeartbeats 8000000 in
theorem eqFrms (g h m : Nat) (F : Nat → Frm) (S R : Nat → FSpot) (w : World) (hm : m ≤ 1048576) (hn : ∀ i, i < m → (F i).nv ≤ 1048576 ∧ (F i).nc ≤ 1048576) (h1 : FramesAt (some ⟨g, 0, none⟩) g 0 m F S w) (h2 : FramesAt (some ⟨h, 0, none⟩) h 0 m F R w) (hSc : FCopy S F m) (hRc : FCopy R F m) :
    Calls Try.prog 54 #[.slice (some ⟨g, 0, none⟩) m m, .slice (some ⟨h, 0, none⟩) m m] w fun e w' => e = .returned (.bool true) ∧ Below w.heap.size w w' := by
  go_enter Try.func54, Try.ntmps54
  go_wp2
  go_loopw [5] (fun i wr => ∃ k : Nat, k ≤ m ∧ i = .int .i64 k ∧ Below w.heap.size w wr) (fun i _ => m - (intOf i).toNat)
  case atStart => exact ⟨0, Nat.zero_le _, rfl, Below.refl _ _⟩
  case round =>
    obtain ⟨k, hk, rfl, hB⟩ := hrel
    by_cases hlt : k < m
    · have t1 : ((k : Int)).toNat = k := by omega
      have t2 : (0 : Int) ≤ (k : Int) := by omega
      have t3 : (k : Int) < (m : Int) := by omega
      have hS0 : Below w.heap.size w wr.drew := hB.drew
      clear hB
      go_wp2_with fail
      refine region_inv3 [(0, 17), (1, 18), (2, 19), (3, 20), (4, 21), (5, 22), (6, 23), (7, 24), (8, 25), (9, 26)]
        (fun j vx _ => match j with
          | 0 => Is (.slice (some ⟨g, 0, none⟩) m m) vx
          | 1 => Is (.int .i64 k) vx
          | 2 => Is (.pointer (some ⟨g, k * 4, none⟩)) vx
          | 3 => Is (.agg #[.int .i64 (F k).proc, .int .i64 (F k).pc, .slice (some ⟨(S k).v.b, 0, none⟩) (F k).nv (F k).nv, .slice (some ⟨(S k).c.b, 0, none⟩) (F k).nc (F k).nc]) vx
          | 4 => Is (.slice (some ⟨h, 0, none⟩) m m) vx
          | 5 => Is (.int .i64 k) vx
          | 6 => Is (.pointer (some ⟨h, k * 4, none⟩)) vx
          | 7 => Is (.agg #[.int .i64 (F k).proc, .int .i64 (F k).pc, .slice (some ⟨(R k).v.b, 0, none⟩) (F k).nv (F k).nv, .slice (some ⟨(R k).c.b, 0, none⟩) (F k).nc (F k).nc]) vx
          | 8 => Is (.bool true) vx
          | 9 => Is (.bool false) vx
          | _ => True)
        (fun _ W => Below w.heap.size w W) TT
        (by kernel_rfl) (by kernel_rfl) (by kernel_rfl) (by kernel_rfl) (by kernel_rfl) rfl hS0 (fun i j v W W' _ h _ => h) ?_ ?_
      · intro i L vals W hi' hφ hS hL hd
        have hi2 : i < 10 := hi'
        clear hi'
        rcases (show i = 0 ∨ i = 1 ∨ i = 2 ∨ i = 3 ∨ i = 4 ∨ i = 5 ∨ i = 6 ∨ i = 7 ∨ i = 8 ∨ i = 9 by omega) with rfl | rfl | rfl | rfl | rfl | rfl | rfl | rfl | rfl | rfl
        · refine wpAt_of rfl rfl ?_
          simp only [frOf, Act.put]
          go_wp2_with fail
          first | exact ⟨trivial, rfl, trivial, hS⟩ | exact ⟨rfl, trivial, hS⟩
        · refine wpAt_of rfl rfl ?_
          simp only [frOf, Act.put]
          go_wp2_with fail
          first | exact ⟨trivial, rfl, trivial, hS⟩ | exact ⟨rfl, trivial, hS⟩
        · have k0 : vals 0 = .slice (some ⟨g, 0, none⟩) m m := hφ 0 (hd 0 (by decide))
          have k1 : vals 1 = .int .i64 k := hφ 1 (hd 1 (by decide))
          refine wpAt_of rfl rfl ?_
          simp only [frOf, Act.put]
          go_wp2_with fail
          first | exact ⟨trivial, rfl, trivial, hS⟩ | exact ⟨rfl, trivial, hS⟩
        · have k2 : vals 2 = .pointer (some ⟨g, k * 4, none⟩) := hφ 2 (hd 2 (by decide))
          have dd := h1.next hS
          have d0 := dd.proc k hlt
          have d1 := dd.pc k hlt
          have d2 := dd.vars k hlt
          have d3 := dd.cells k hlt
          rw [hSc k hlt] at d2 d3
          rw [Nat.zero_add] at d0 d1 d2 d3
          clear dd
          refine wpAt_of rfl rfl ?_
          simp only [frOf, Act.put]
          go_wp2_with fail
          first | exact ⟨trivial, rfl, trivial, hS⟩ | exact ⟨rfl, trivial, hS⟩ | exact ⟨trivial, rfl, trivial⟩ | exact ⟨rfl, trivial⟩ | exact rfl
        · refine wpAt_of rfl rfl ?_
          simp only [frOf, Act.put]
          go_wp2_with fail
          first | exact ⟨trivial, rfl, trivial, hS⟩ | exact ⟨rfl, trivial, hS⟩
        · refine wpAt_of rfl rfl ?_
          simp only [frOf, Act.put]
          go_wp2_with fail
          first | exact ⟨trivial, rfl, trivial, hS⟩ | exact ⟨rfl, trivial, hS⟩
        · have k4 : vals 4 = .slice (some ⟨h, 0, none⟩) m m := hφ 4 (hd 4 (by decide))
          have k5 : vals 5 = .int .i64 k := hφ 5 (hd 5 (by decide))
          refine wpAt_of rfl rfl ?_
          simp only [frOf, Act.put]
          go_wp2_with fail
          first | exact ⟨trivial, rfl, trivial, hS⟩ | exact ⟨rfl, trivial, hS⟩
        · have k6 : vals 6 = .pointer (some ⟨h, k * 4, none⟩) := hφ 6 (hd 6 (by decide))
          have dd := h2.next hS
          have d0 := dd.proc k hlt
          have d1 := dd.pc k hlt
          have d2 := dd.vars k hlt
          have d3 := dd.cells k hlt
          rw [hRc k hlt] at d2 d3
          rw [Nat.zero_add] at d0 d1 d2 d3
          clear dd
          refine wpAt_of rfl rfl ?_
          simp only [frOf, Act.put]
          go_wp2_with fail
          first | exact ⟨trivial, rfl, trivial, hS⟩ | exact ⟨rfl, trivial, hS⟩ | exact ⟨trivial, rfl, trivial⟩ | exact ⟨rfl, trivial⟩ | exact rfl
        · have k3 : vals 3 = .agg #[.int .i64 (F k).proc, .int .i64 (F k).pc, .slice (some ⟨(S k).v.b, 0, none⟩) (F k).nv (F k).nv, .slice (some ⟨(S k).c.b, 0, none⟩) (F k).nc (F k).nc] := hφ 3 (hd 3 (by decide))
          have k7 : vals 7 = .agg #[.int .i64 (F k).proc, .int .i64 (F k).pc, .slice (some ⟨(R k).v.b, 0, none⟩) (F k).nv (F k).nv, .slice (some ⟨(R k).c.b, 0, none⟩) (F k).nc (F k).nc] := hφ 7 (hd 7 (by decide))
          have G1 := h1.next hS
          have G2 := h2.next hS
          have C1 := G1.vs k hlt
          have C2 := G2.vs k hlt
          have D1 := G1.cs k hlt
          have D2 := G2.cs k hlt
          rw [hSc k hlt] at C1 D1
          rw [hRc k hlt] at C2 D2
          clear G1 G2
          refine wpAt_of rfl rfl ?_
          simp only [frOf, Act.put]
          go_wp2_with fail
          refine (eqFrm _ _ _ _ _ _ _ _ _ _ _ (hn k hlt).1 (hn k hlt).2 C1 C2 D1 D2).mono ?_
          rintro e W' ⟨rfl, hb⟩
          go_wp2_with fail
          first | exact ⟨trivial, rfl, trivial, below_tr hS hb⟩ | exact ⟨rfl, trivial, below_tr hS hb⟩
        · have k8 : vals 8 = .bool true := hφ 8 (hd 8 (by decide))
          refine wpAt_of rfl rfl ?_
          simp only [frOf, Act.put]
          go_wp2_with fail
          first | exact ⟨trivial, rfl, trivial, hS⟩ | exact ⟨rfl, trivial, hS⟩
      · intro L vals W hall hφ hS
        have k0 : vals 0 = .slice (some ⟨g, 0, none⟩) m m := hφ 0 (by decide)
        have k1 : vals 1 = .int .i64 k := hφ 1 (by decide)
        have k2 : vals 2 = .pointer (some ⟨g, k * 4, none⟩) := hφ 2 (by decide)
        have k3 : vals 3 = .agg #[.int .i64 (F k).proc, .int .i64 (F k).pc, .slice (some ⟨(S k).v.b, 0, none⟩) (F k).nv (F k).nv, .slice (some ⟨(S k).c.b, 0, none⟩) (F k).nc (F k).nc] := hφ 3 (by decide)
        have k4 : vals 4 = .slice (some ⟨h, 0, none⟩) m m := hφ 4 (by decide)
        have k5 : vals 5 = .int .i64 k := hφ 5 (by decide)
        have k6 : vals 6 = .pointer (some ⟨h, k * 4, none⟩) := hφ 6 (by decide)
        have k7 : vals 7 = .agg #[.int .i64 (F k).proc, .int .i64 (F k).pc, .slice (some ⟨(R k).v.b, 0, none⟩) (F k).nv (F k).nv, .slice (some ⟨(R k).c.b, 0, none⟩) (F k).nc (F k).nc] := hφ 7 (by decide)
        have k8 : vals 8 = .bool true := hφ 8 (by decide)
        have k9 : vals 9 = .bool false := hφ 9 (by decide)
        simp only [frOf, Act.put, List.setIfInBounds_toArray, List.set_cons_succ, List.set_cons_zero, k0, k1, k2, k3, k4, k5, k6, k7, k8, k9]
        clear k0 k1 k2 k3 k4 k5 k6 k7 k8 k9
        clear hall hφ hS0
        go_wp2_with fail
        go_roundw
        case rel => exact ⟨k + 1, by omega, by go_num, hS⟩
        case measure => simp [intOf]; omega
    · obtain rfl : k = m := by omega
      clear h1 h2
      go_wp2_with fail
      go_ret
      exact ⟨rfl, hB⟩
set_option maxHeartbeats 2000000 in
theorem eqRun (st out pr pc : Int) (g h m : Nat) (F : Nat → Frm) (S R : Nat → FSpot) (w : World) (hm : m ≤ 1048576) (hn : ∀ i, i < m → (F i).nv ≤ 1048576 ∧ (F i).nc ≤ 1048576) (h1 : FramesAt (some ⟨g, 0, none⟩) g 0 m F S w) (h2 : FramesAt (some ⟨h, 0, none⟩) h 0 m F R w) (hSc : FCopy S F m) (hRc : FCopy R F m) :
    Calls Try.prog 24 #[.agg #[.int .i64 st, .slice (some ⟨g, 0, none⟩) m m, .int .i64 out, .int .i64 pr, .int .i64 pc], .agg #[.int .i64 st, .slice (some ⟨h, 0, none⟩) m m, .int .i64 out, .int .i64 pr, .int .i64 pc]] w fun e w' => e = .returned (.bool true) ∧ Below w.heap.size w w' := by
  have H0 : HeldL w [(w.heap.size + 1, [Value.int .i64 st, .slice (some ⟨h, 0, none⟩) m m, .int .i64 out, .int .i64 pr, .int .i64 pc]), (w.heap.size, [Value.int .i64 st, .slice (some ⟨g, 0, none⟩) m m, .int .i64 out, .int .i64 pr, .int .i64 pc])] ((w.alloc (.cells #[.int .i64 st, .slice (some ⟨g, 0, none⟩) m m, .int .i64 out, .int .i64 pr, .int .i64 pc] 47)).alloc (.cells #[.int .i64 st, .slice (some ⟨h, 0, none⟩) m m, .int .i64 out, .int .i64 pr, .int .i64 pc] 47)) := by
    have e1 : w.heap.size + 1 = (w.alloc (.cells #[.int .i64 st, .slice (some ⟨g, 0, none⟩) m m, .int .i64 out, .int .i64 pr, .int .i64 pc] 47)).heap.size := by simp
    rw [e1]
    exact HeldL.newL (vs := [Value.int .i64 st, .slice (some ⟨h, 0, none⟩) m m, .int .i64 out, .int .i64 pr, .int .i64 pc]) (HeldL.newL (vs := [Value.int .i64 st, .slice (some ⟨g, 0, none⟩) m m, .int .i64 out, .int .i64 pr, .int .i64 pc]) (HeldL.nil w))
  have I1 := h1.next H0.below
  have I2 := h2.next H0.below
  clear h1 h2
  go_enter Try.func24, Try.ntmps24
  go_wp2_with fail
  refine (eqFrms _ _ _ _ _ _ _ hm hn I1 I2 hSc hRc).mono ?_
  rintro e w1 ⟨rfl, hb⟩
  have H1 := H0.next hb
  clear H0 I1 I2 hb hn hSc hRc
  have a2' := H1.cell (List.mem_cons_of_mem _ List.mem_cons_self) (i := 2) rfl
  have b2' := H1.cell List.mem_cons_self (i := 2) rfl
  have a3' := H1.cell (List.mem_cons_of_mem _ List.mem_cons_self) (i := 3) rfl
  have b3' := H1.cell List.mem_cons_self (i := 3) rfl
  have a4' := H1.cell (List.mem_cons_of_mem _ List.mem_cons_self) (i := 4) rfl
  have b4' := H1.cell List.mem_cons_self (i := 4) rfl
  dsimp only at a2' b2' a3' b3' a4' b4'
  go_wp2_with fail
  go_ret
  exact ⟨rfl, H1.below⟩
end Go.Proofs.Ytndedplmcjfgeaa
