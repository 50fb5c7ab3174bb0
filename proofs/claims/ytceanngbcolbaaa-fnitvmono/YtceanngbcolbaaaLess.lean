/- What the laws' owLess answers: bounds within bounds. -/
import Derived.Test.YtceanngbcolbaaaDrawDo
import Derived.Test.YtceanngbcolbaaaRegNew
namespace Go.Proofs.Ytceanngbcolbaaa
open Go.ChangeShapes Go.WideShapes Go.ChangeAt Go.RowKit

/-- What owLess makes of bounds. -/
def lessLo (lo hi n : Int) : Int := lo + n % 65536 % (hi - lo + 1)
def lessHi (lo hi n : Int) : Int := if n % 65536 % 3 = 0 then lessLo lo hi n else hi
theorem less_in {lo hi n : Int} (h : lo ≤ hi) : lo ≤ lessLo lo hi n ∧ lessLo lo hi n ≤ lessHi lo hi n ∧ lessHi lo hi n ≤ hi := by
  have h1 := Int.emod_nonneg (n % 65536) (show hi - lo + 1 ≠ 0 by omega)
  have h2 := Int.emod_lt_of_pos (n % 65536) (show 0 < hi - lo + 1 by omega)
  unfold lessHi
  unfold lessLo
  split <;> omega
/-- A block whose first cell the region turns. -/
def LS (w : World) (X : Nat) (Lb : List (Nat × List Value)) (lo p hi : Int) (s : Nat) (L : Nat → Bool) (W : World) : Prop :=
  (L s = true → HeldL w ((X, [Value.int .i64 p, .int .i64 hi]) :: Lb) W) ∧ (L s = false → HeldL w ((X, [Value.int .i64 lo, .int .i64 hi]) :: Lb) W)
theorem LS.held {w : World} {X : Nat} {Lb : List (Nat × List Value)} {lo p hi : Int} {s : Nat} {L : Nat → Bool} {W : World} (h : LS w X Lb lo p hi s L W) : HeldL w Lb W := by
  cases e : L s
  · exact (h.2 e).sub (fun e he => List.mem_cons_of_mem _ he)
  · exact (h.1 e).sub (fun e he => List.mem_cons_of_mem _ he)
theorem LS.next {w : World} {X : Nat} {Lb : List (Nat × List Value)} {lo p hi : Int} {s : Nat} {L : Nat → Bool} {W W' : World} (h : LS w X Lb lo p hi s L W) (hb : Below W.heap.size W W') {i : Nat} (hi' : s ≠ i) : LS w X Lb lo p hi s (upd L i true) W' :=
  ⟨fun e => (h.1 (by rwa [upd_other _ _ hi'] at e)).next hb, fun e => (h.2 (by rwa [upd_other _ _ hi'] at e)).next hb⟩
theorem LS.pure {w : World} {X : Nat} {Lb : List (Nat × List Value)} {lo p hi : Int} {s : Nat} {L : Nat → Bool} {W : World} (h : LS w X Lb lo p hi s L W) {i : Nat} (hi' : s ≠ i) : LS w X Lb lo p hi s (upd L i true) W := h.next (Below.refl _ _) hi'
theorem LS.set {w : World} {X : Nat} {Lb : List (Nat × List Value)} {lo p hi : Int} {s : Nat} {L : Nat → Bool} {W : World} (h : LS w X Lb lo p hi s L W) (hL : L s = false) (hX : w.heap.size ≤ X) (hne : ∀ e ∈ Lb, e.1 ≠ X) : LS w X Lb lo p hi s (upd L s true) (W.setCell ⟨X, 0, none⟩ (.int .i64 p)) :=
  ⟨fun _ => HeldL.put0 hX hne (h.2 hL), fun e => by rw [upd_same] at e; cases e⟩
theorem tm3 {n : Int} (h : 0 ≤ n) : n.tmod 3 = n % 3 := Int.tmod_eq_emod_of_nonneg h
set_option maxRecDepth 10000 in
set_option maxHeartbeats 8000000 in
theorem owLess_is (lo hi n p r : Int) (w : World) (hok : itvOk lo hi = true) (h1 : lessLo lo hi n = p) (h2 : lessHi lo hi n = r) :
    Calls Try.prog 16 #[.agg #[.int .i64 lo, .int .i64 hi], .int .i64 n] w fun e w' => e = .returned (.agg #[.int .i64 p, .int .i64 r]) ∧ Below w.heap.size w w' := by
  obtain ⟨o1, o2, o3⟩ := itvOk_of hok
  have k1 := ok_lo o1
  have k2 := ok_hi o1
  have k3 := ok_lo o2
  have k4 := ok_hi o2
  obtain ⟨nr, hnr0⟩ : ∃ nr, n % 65536 = nr := ⟨_, rfl⟩
  have n1 : 0 ≤ nr ∧ nr < 65536 := by omega
  obtain ⟨n1, n2⟩ := n1
  have hnr : Hid (n % 65536 = nr) := hnr0
  obtain ⟨q, hq0⟩ : ∃ q, nr % (hi - lo + 1) = q := ⟨_, rfl⟩
  have hp : Hid (lo + q = p) := by rw [← hq0, ← hnr0]; exact h1
  have hr : Hid ((if nr % 3 = 0 then p else hi) = r) := by rw [← h2, lessHi, h1, hnr0]; exact rfl
  have d0 : ¬ (hi - lo + 1 = 0) := by omega
  have d2 := Int.emod_nonneg nr d0
  have d3 := Int.emod_lt_of_pos nr (show 0 < hi - lo + 1 by omega)
  have hq : Hid (nr % (hi - lo + 1) = q) := hq0
  have hq2 : Hid (nr.tmod (hi - lo + 1) = q) := (Int.tmod_eq_emod_of_nonneg n1).trans hq0
  have pb : -32768 ≤ p ∧ p ≤ 32767 := by have := hp.out; omega
  rw [hq0] at d2 d3
  clear hq0 hnr0 h1 h2 hok o1 o2
  obtain ⟨pb1, pb2⟩ := pb
  have H1 := held3 w (.int .i64 lo) (.int .i64 hi) (.int .i64 0) (.int .i64 0) (.int .i64 lo) (.int .i64 hi) 24
  obtain ⟨Lb, hLb⟩ : ∃ Lb, Lb = [(w.heap.size + 1, [Value.int .i64 0, .int .i64 0]), (w.heap.size, [Value.int .i64 lo, .int .i64 hi])] := ⟨_, rfl⟩
  obtain ⟨X, hX⟩ : ∃ X, X = w.heap.size + 1 + 1 := ⟨_, rfl⟩
  have mA : (w.heap.size, [Value.int .i64 lo, .int .i64 hi]) ∈ Lb := by rw [hLb]; simp
  have mB : (w.heap.size + 1, [Value.int .i64 0, .int .i64 0]) ∈ Lb := by rw [hLb]; simp
  have hXw : w.heap.size ≤ X := by omega
  have hXn : ∀ e ∈ Lb, e.1 ≠ X := by
    rw [hLb]; intro e he
    simp at he
    rcases he with rfl | rfl <;> simp only [] <;> omega
  rw [← hLb, ← hX] at H1
  have hXS : Hid (X = w.heap.size + 1 + 1) := hX
  have hS0 : LS w X Lb lo p hi 9 (fun _ => false) (((w.alloc (.cells #[.int .i64 lo, .int .i64 hi] 24)).alloc (.cells #[.int .i64 0, .int .i64 0] 24)).alloc (.cells #[.int .i64 lo, .int .i64 hi] 24)).drew := ⟨(fun e => by cases e), fun _ => H1.drew⟩
  clear H1 hLb hX
  go_enter Try.func16, Try.ntmps16
  go_wp2_with fail
  rw [← hXS.out]
  refine region_inv3 [(0, 13), (1, 14), (2, 15), (3, 16), (4, 17), (5, 18), (6, 19), (7, 20), (8, 21)]
    (fun j vx _ => match j with
      | 0 => Is (.pointer (some ⟨w.heap.size, 0, none⟩)) vx
      | 1 => Is (.int .i64 (lo)) vx
      | 2 => Is (.int .i64 (n)) vx
      | 3 => Is (.int .i64 (nr)) vx
      | 4 => Is (.int .i64 (hi - lo)) vx
      | 5 => Is (.int .i64 (hi - lo + 1)) vx
      | 6 => Is (.int .i64 (q)) vx
      | 7 => Is (.int .i64 (p)) vx
      | 8 => Is (.pointer (some ⟨X, 0, none⟩)) vx
      | _ => True)
    (LS w X Lb lo p hi 9) TT
    (by kernel_rfl) (by kernel_rfl) (by kernel_rfl) (by kernel_rfl) (by kernel_rfl) rfl hS0 (fun i j v W W' _ h _ => h) ?_ ?_
  · intro i L vals W hi' hφ hS hL hd
    have hi2 : i < 10 := hi'
    clear hi'
    rcases (show i = 0 ∨ i = 1 ∨ i = 2 ∨ i = 3 ∨ i = 4 ∨ i = 5 ∨ i = 6 ∨ i = 7 ∨ i = 8 ∨ i = 9 by omega) with rfl | rfl | rfl | rfl | rfl | rfl | rfl | rfl | rfl | rfl
    · refine wpAt_of rfl rfl ?_
      simp only [frOf, Act.put]
      go_wp2_with fail
      first | exact ⟨trivial, rfl, trivial, hS.pure (by decide)⟩ | exact ⟨rfl, trivial, hS.pure (by decide)⟩
    · have k0 : vals 0 = .pointer (some ⟨w.heap.size, 0, none⟩) := hφ 0 (hd 0 (by decide))
      have c0 : W.cell? ⟨w.heap.size, 0, none⟩ = some (.int .i64 lo) := HeldL.cell hS.held mA (i := 0) rfl
      refine wpAt_of rfl rfl ?_
      simp only [frOf, Act.put]
      go_wp2_with fail
      first | exact ⟨trivial, rfl, trivial, hS.pure (by decide)⟩ | exact ⟨rfl, trivial, hS.pure (by decide)⟩
    · refine wpAt_of rfl rfl ?_
      simp only [frOf, Act.put]
      go_wp2_with fail
      first | exact ⟨trivial, rfl, trivial, hS.pure (by decide)⟩ | exact ⟨rfl, trivial, hS.pure (by decide)⟩
    · have k2 : vals 2 = .int .i64 (n) := hφ 2 (hd 2 (by decide))
      refine wpAt_of rfl rfl ?_
      simp only [frOf, Act.put]
      go_wp2_with fail
      refine (owNorm_is _ nr _ hnr.out).mono ?_
      rintro e W' ⟨rfl, hb⟩
      go_wp2_with fail
      first | exact ⟨trivial, rfl, trivial, hS.next hb (by decide)⟩ | exact ⟨rfl, trivial, hS.next hb (by decide)⟩
    · refine wpAt_of rfl rfl ?_
      simp only [frOf, Act.put]
      go_wp2_with fail
      first | exact ⟨trivial, rfl, trivial, hS.pure (by decide)⟩ | exact ⟨rfl, trivial, hS.pure (by decide)⟩
    · have k4 : vals 4 = .int .i64 (hi - lo) := hφ 4 (hd 4 (by decide))
      refine wpAt_of rfl rfl ?_
      simp only [frOf, Act.put]
      go_wp2_with fail
      first | exact ⟨trivial, rfl, trivial, hS.pure (by decide)⟩ | exact ⟨rfl, trivial, hS.pure (by decide)⟩
    · have k3 : vals 3 = .int .i64 (nr) := hφ 3 (hd 3 (by decide))
      have k5 : vals 5 = .int .i64 (hi - lo + 1) := hφ 5 (hd 5 (by decide))
      refine wpAt_of rfl rfl ?_
      simp only [frOf, Act.put]
      go_wp2_with fail
      first | exact ⟨trivial, congrArg (Value.int .i64) hq.out, trivial, hS.pure (by decide)⟩ | exact ⟨trivial, congrArg (Value.int .i64) hq2.out, trivial, hS.pure (by decide)⟩ | exact ⟨congrArg (Value.int .i64) hq.out, trivial, hS.pure (by decide)⟩ | exact ⟨congrArg (Value.int .i64) hq2.out, trivial, hS.pure (by decide)⟩
    · have k1 : vals 1 = .int .i64 (lo) := hφ 1 (hd 1 (by decide))
      have k6 : vals 6 = .int .i64 (q) := hφ 6 (hd 6 (by decide))
      refine wpAt_of rfl rfl ?_
      simp only [frOf, Act.put]
      go_wp2_with fail
      first | exact ⟨trivial, congrArg (Value.int .i64) hp.out, trivial, hS.pure (by decide)⟩ | exact ⟨congrArg (Value.int .i64) hp.out, trivial, hS.pure (by decide)⟩
    · refine wpAt_of rfl rfl ?_
      simp only [frOf, Act.put]
      go_wp2_with fail
      first | exact ⟨trivial, rfl, trivial, hS.pure (by decide)⟩ | exact ⟨rfl, trivial, hS.pure (by decide)⟩
    · have k7 : vals 7 = .int .i64 p := hφ 7 (hd 7 (by decide))
      have k8 : vals 8 = .pointer (some ⟨X, 0, none⟩) := hφ 8 (hd 8 (by decide))
      have c0 := (hS.2 hL).cell (e := (X, [Value.int .i64 lo, .int .i64 hi])) (by simp) (i := 0) rfl
      have f0 := (hS.2 hL).free (X, [Value.int .i64 lo, .int .i64 hi]) (by simp) 0
      dsimp only at c0 f0
      refine wpAt_none rfl rfl ?_
      simp only [frOf, Act.put]
      go_wp2_with fail
      first | exact ⟨trivial, trivial, trivial, hS.set hL hXw hXn⟩ | exact ⟨trivial, trivial, hS.set hL hXw hXn⟩ | exact ⟨trivial, hS.set hL hXw hXn⟩
  · intro L vals W hall hφ hS
    have k0 : vals 0 = .pointer (some ⟨w.heap.size, 0, none⟩) := hφ 0 (by decide)
    have k1 : vals 1 = .int .i64 (lo) := hφ 1 (by decide)
    have k2 : vals 2 = .int .i64 (n) := hφ 2 (by decide)
    have k3 : vals 3 = .int .i64 (nr) := hφ 3 (by decide)
    have k4 : vals 4 = .int .i64 (hi - lo) := hφ 4 (by decide)
    have k5 : vals 5 = .int .i64 (hi - lo + 1) := hφ 5 (by decide)
    have k6 : vals 6 = .int .i64 (q) := hφ 6 (by decide)
    have k7 : vals 7 = .int .i64 (p) := hφ 7 (by decide)
    have k8 : vals 8 = .pointer (some ⟨X, 0, none⟩) := hφ 8 (by decide)
    simp only [frOf, Act.put, List.setIfInBounds_toArray, List.set_cons_succ, List.set_cons_zero, k0, k1, k2, k3, k4, k5, k6, k7, k8]
    clear k0 k1 k2 k3 k4 k5 k6 k7 k8
    have HX := hS.1 (hall 9 (by decide))
    clear hall hφ hS0 hS
    have x0 := HX.cell (e := (X, [Value.int .i64 p, .int .i64 hi])) (by simp) (i := 0) rfl
    dsimp only at x0
    go_wp2_with fail
    refine (owNorm_is _ nr _ hnr.out).mono ?_
    rintro e w2 ⟨rfl, b2⟩
    have HY := HX.next b2
    clear HX x0 b2
    have t3 := tm3 n1
    have mX : (X, [Value.int .i64 p, .int .i64 hi]) ∈ (X, [Value.int .i64 p, .int .i64 hi]) :: Lb := by simp
    by_cases hc : nr % 3 = 0
    · have hc2 : nr.tmod 3 = 0 := by omega
      have hrp : p = r := by have := hr.out; rwa [if_pos hc] at this
      subst hrp
      have hc4 : (nr % 3 == 0) = true := by simp [hc]
      clear t3
      have x0 := HY.cell mX (i := 0) rfl
      have x1 := HY.cell mX (i := 1) rfl
      have f1 := HY.free _ mX
      have HZ := HeldL.put1 (x := .int .i64 p) hXw hXn HY
      have z0 := HZ.cell (e := (X, [Value.int .i64 p, .int .i64 p])) (by simp) (i := 0) rfl
      have z1 := HZ.cell (e := (X, [Value.int .i64 p, .int .i64 p])) (by simp) (i := 1) rfl
      have g0 := HZ.cell (List.mem_cons_of_mem _ mB) (i := 0) rfl
      have g1 := HZ.cell (List.mem_cons_of_mem _ mB) (i := 1) rfl
      have gf := HZ.free _ (List.mem_cons_of_mem _ mB)
      dsimp only at x0 x1 f1 z0 z1 g0 g1 gf
      have bE := HZ.below
      obtain ⟨e0, e1⟩ := own2 g0 g1
      clear HY HZ
      go_wp2_with fail
      refine bodyPost_ret (v := .agg #[.int .i64 p, .int .i64 p]) (by simp [results, Try.results16, go_sem, e0, e1]) rfl ⟨rfl, ?_⟩
      repeat (first | exact bE | refine Below.setCell ?_ (by simp; try omega) _)
    · have hc2 : ¬ nr.tmod 3 = 0 := by omega
      have hc3 : (nr.tmod 3 == 0) = false := by simp [hc2]
      have hrp : hi = r := by have := hr.out; rwa [if_neg hc] at this
      subst hrp
      have hc4 : (nr % 3 == 0) = false := by simp [hc]
      clear t3
      have z0 := HY.cell mX (i := 0) rfl
      have z1 := HY.cell mX (i := 1) rfl
      have g0 := HY.cell (List.mem_cons_of_mem _ mB) (i := 0) rfl
      have g1 := HY.cell (List.mem_cons_of_mem _ mB) (i := 1) rfl
      have gf := HY.free _ (List.mem_cons_of_mem _ mB)
      dsimp only at z0 z1 g0 g1 gf
      have bE := HY.below
      obtain ⟨e0, e1⟩ := own2 g0 g1
      clear HY
      go_wp2_with fail
      refine bodyPost_ret (v := .agg #[.int .i64 p, .int .i64 hi]) (by simp [results, Try.results16, go_sem, e0, e1]) rfl ⟨rfl, ?_⟩
      repeat (first | exact bE | refine Below.setCell ?_ (by simp; try omega) _)
end Go.Proofs.Ytceanngbcolbaaa
