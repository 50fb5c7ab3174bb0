/- PrgOk, the model's: which procedures and programs are ok. It makes memory of its own alone. · The model's PrgOk answers what the plain prgOk says; it makes memory of its own alone. · PrgOk, the program's: which procedures are ok. It makes memory of its own alone. · The program's PrgOk answers what the plain prgOk says; it makes memory of its own alone. -/
import Derived.Test.YtdpkbbbfnmneiaaPlainPrg
import Derived.Test.YtdpkbbbfnmneiaaPrgEq
import Derived.Test.YtdpkbbbfnmneiaaInsS5
import Derived.Test.YtdpkbbbfnmneiaaItv
import Derived.Test.YtdpkbbbfnmneiaaInsI4
import Derived.Test.YtdpkbbbfnmneiaaItvI
namespace Go.Proofs.Ytdpkbbbfnmneiaa
open Go.ChangeShapes Go.WideShapes Go.ChangeAt Go.RowKit

set_option maxHeartbeats 2000000 in
theorem procS_a (lo hi : Int) (a : Option Addr) (n cap : Nat) (c : Nat → Nat → Int) (procs : Int) (w : World) (g0 : okB lo = false) :
    Calls Try.prog 111 #[.agg #[.int .i64 lo, .int .i64 hi, .slice a n cap], .int .i64 procs] w fun e w' => e = .returned (.bool (procOk ⟨lo, hi, n, c⟩ procs)) ∧ Below w.heap.size w w' := by
  have b0 : Below w.heap.size w (w.alloc (.cells #[.int .i64 lo, .int .i64 hi, .slice a n cap] 89)) := (Below.refl w.heap.size w).alloc (Nat.le_refl _) _
  have hR : procOk ⟨lo, hi, n, c⟩ procs = false := by simp [procOk, itvOk, g0]
  rw [hR]
  clear hR
  go_enter Try.func111, Try.ntmps111
  go_wp2_with (go_at_call 112; refine (okS _ _).mono ?_; rintro e w' ⟨rfl, rfl⟩; rw [g0])
  go_ret
  exact ⟨rfl, b0⟩

set_option maxHeartbeats 2000000 in
theorem procS_b (lo hi : Int) (a : Option Addr) (n cap : Nat) (c : Nat → Nat → Int) (procs : Int) (w : World) (g0 : okB lo = true) (g1 : okB hi = false) :
    Calls Try.prog 111 #[.agg #[.int .i64 lo, .int .i64 hi, .slice a n cap], .int .i64 procs] w fun e w' => e = .returned (.bool (procOk ⟨lo, hi, n, c⟩ procs)) ∧ Below w.heap.size w w' := by
  have b0 : Below w.heap.size w (w.alloc (.cells #[.int .i64 lo, .int .i64 hi, .slice a n cap] 89)) := (Below.refl w.heap.size w).alloc (Nat.le_refl _) _
  have hR : procOk ⟨lo, hi, n, c⟩ procs = false := by simp [procOk, itvOk, g1]
  rw [hR]
  clear hR
  go_enter Try.func111, Try.ntmps111
  go_wp2_with (go_at_call 112; refine (okS _ _).mono ?_; rintro e w' ⟨rfl, rfl⟩; first | rw [g0] | rw [g1])
  go_ret
  exact ⟨rfl, b0⟩

set_option maxHeartbeats 2000000 in
theorem procS_c (lo hi : Int) (a : Option Addr) (n cap : Nat) (c : Nat → Nat → Int) (procs : Int) (w : World) (g0 : okB lo = true) (g1 : okB hi = true) (g2 : hi < lo) :
    Calls Try.prog 111 #[.agg #[.int .i64 lo, .int .i64 hi, .slice a n cap], .int .i64 procs] w fun e w' => e = .returned (.bool (procOk ⟨lo, hi, n, c⟩ procs)) ∧ Below w.heap.size w w' := by
  have b0 : Below w.heap.size w (w.alloc (.cells #[.int .i64 lo, .int .i64 hi, .slice a n cap] 89)) := (Below.refl w.heap.size w).alloc (Nat.le_refl _) _
  have hR : procOk ⟨lo, hi, n, c⟩ procs = false := by simp [procOk, itvOk]; omega
  rw [hR]
  clear hR
  go_enter Try.func111, Try.ntmps111
  go_wp2_with (go_at_call 112; refine (okS _ _).mono ?_; rintro e w' ⟨rfl, rfl⟩; first | rw [g0] | rw [g1])
  go_ret
  exact ⟨rfl, b0⟩

set_option maxHeartbeats 2000000 in
theorem procS_d (lo hi : Int) (a : Option Addr) (n cap : Nat) (c : Nat → Nat → Int) (procs : Int) (w : World) (g0 : okB lo = true) (g1 : okB hi = true) (g2 : lo ≤ hi) (g3 : inB n 1 10 = false) :
    Calls Try.prog 111 #[.agg #[.int .i64 lo, .int .i64 hi, .slice a n cap], .int .i64 procs] w fun e w' => e = .returned (.bool (procOk ⟨lo, hi, n, c⟩ procs)) ∧ Below w.heap.size w w' := by
  have b0 : Below w.heap.size w (w.alloc (.cells #[.int .i64 lo, .int .i64 hi, .slice a n cap] 89)) := (Below.refl w.heap.size w).alloc (Nat.le_refl _) _
  have hR : procOk ⟨lo, hi, n, c⟩ procs = false := by simp [procOk, g3]
  rw [hR]
  clear hR
  go_enter Try.func111, Try.ntmps111
  go_wp2_with (first | (go_at_call 112; refine (okS _ _).mono ?_; rintro e w' ⟨rfl, rfl⟩; first | rw [g0] | rw [g1]) | (go_at_call 56; refine (inS _ _ _ _).mono ?_; rintro e w' ⟨rfl, rfl⟩; rw [g3]))
  go_ret
  exact ⟨rfl, b0⟩

set_option maxHeartbeats 4000000 in
theorem procS_e (lo hi : Int) (a : Option Addr) (b off n cap : Nat) (c : Nat → Nat → Int) (procs : Int) (w : World) (hn : n ≤ 1048576) (hC : CodeAt a b off n c w) (g0 : okB lo = true) (g1 : okB hi = true) (g2 : lo ≤ hi) (g3 : inB n 1 10 = true) :
    Calls Try.prog 111 #[.agg #[.int .i64 lo, .int .i64 hi, .slice a n cap], .int .i64 procs] w fun e w' => e = .returned (.bool (procOk ⟨lo, hi, n, c⟩ procs)) ∧ Below w.heap.size w w' := by
  have b0 : Below w.heap.size w (w.alloc (.cells #[.int .i64 lo, .int .i64 hi, .slice a n cap] 89)) := (Below.refl w.heap.size w).alloc (Nat.le_refl _) _
  have hC0 := hC.next b0
  have h1n : 1 ≤ n := by simp [inB] at g3; omega
  have e1 := hC.at_ (by omega)
  have hR : Hid (procOk ⟨lo, hi, n, c⟩ procs = (codeOk c procs n n && lastOk (c (n - 1) 0))) := by
    have : itvOk lo hi = true := by simp [itvOk, g0, g1, g2]
    show procOk ⟨lo, hi, n, c⟩ procs = (codeOk c procs n n && lastOk (c (n - 1) 0))
    simp only [procOk, this, g3, Bool.true_and]
  have cc : (w.alloc (.cells #[.int .i64 lo, .int .i64 hi, .slice a n cap] 89)).cell? ⟨w.heap.size, 2, none⟩ = some (.slice a n cap) := by simp [go_sem]
  subst e1
  clear hC
  go_enter Try.func111, Try.ntmps111
  go_wp2_with (first | (go_at_call 112; refine (okS _ _).mono ?_; rintro e w' ⟨rfl, rfl⟩; first | rw [g0] | rw [g1]) | (go_at_call 56; refine (inS _ _ _ _).mono ?_; rintro e w' ⟨rfl, rfl⟩; rw [g3]))
  go_loopw [6] (fun i wr => ∃ k : Nat, k ≤ n ∧ i = .int .i64 k ∧ Hid (codeOk c procs n k = true) ∧ Below (w.alloc (.cells #[.int .i64 lo, .int .i64 hi, .slice (some ⟨b, off, none⟩) n cap] 89)).heap.size (w.alloc (.cells #[.int .i64 lo, .int .i64 hi, .slice (some ⟨b, off, none⟩) n cap] 89)) wr) (fun i _ => n - (intOf i).toNat)
  case atStart => exact ⟨0, Nat.zero_le _, rfl, (rfl : _ = _), Below.refl _ _⟩
  case round =>
    obtain ⟨k, hk, rfl, hO, hB⟩ := hrel
    have c2 := (hB.cell (p := ⟨w.heap.size, 2, none⟩) (by simp)).trans cc
    have H := hC0.next hB
    have b1 := below_tr b0 hB
    clear cc hC0
    by_cases hlt : k < n
    · have t1 : ((k : Int)).toNat = k := by omega
      have t2 : (0 : Int) ≤ (k : Int) := by omega
      have t3 : (k : Int) < (n : Int) := by omega
      have d0 := H.cell k 0 hlt (by omega)
      have d1 := H.cell k 1 hlt (by omega)
      have d2 := H.cell k 2 hlt (by omega)
      have d3 := H.cell k 3 hlt (by omega)
      have d4 := H.cell k 4 hlt (by omega)
      have d5 := H.cell k 5 hlt (by omega)
      have d6 := H.cell k 6 hlt (by omega)
      have d7 := H.cell k 7 hlt (by omega)
      rw [Nat.add_zero] at d0
      clear H
      go_wp2_with fail
      refine (insOkS _ _ _ _ _ _ _ _ _ _ _).mono ?_
      rintro e w1 ⟨rfl, h1⟩
      have b2 := below_tr b1 h1
      have hB2 := below_tr hB h1
      cases hs : stepOk c procs n k
      · have hs' := hs
        simp only [stepOk] at hs'
        rw [hs']
        clear hs'
        go_wp2_with fail
        go_ret
        exact ⟨ret_bool (by rw [hR.out, codeOk_false hlt hs]; rfl), b2⟩
      · have hs' := hs
        simp only [stepOk] at hs'
        rw [hs']
        clear hs'
        have hS : Hid (stepOk c procs n k = true) := hs
        clear hs
        go_wp2_with fail
        go_roundw
        case rel => exact ⟨k + 1, by omega, by go_num, (by simp only [codeOk, hO.out, hS.out, Bool.and_self] : _ = _), hB2⟩
        case measure => simp [intOf]; omega
    · obtain rfl : k = n := by omega
      have t1 : ((k : Int) - 1).toNat = k - 1 := by omega
      have t2 : (0 : Int) ≤ (k : Int) - 1 := by omega
      have t3 : (k : Int) - 1 < (k : Int) := by omega
      have hlast : k - 1 < k := by omega
      have d0 := H.cell (k - 1) 0 hlast (by omega)
      rw [Nat.add_zero] at d0
      clear H
      have hR' : Hid (procOk ⟨lo, hi, k, c⟩ procs = lastOk (c (k - 1) 0)) := (by rw [hR.out, hO.out, Bool.true_and] : _ = _)
      clear hR
      generalize c (k - 1) 0 = o at d0 hR'
      by_cases h12 : o = 12
      · subst h12
        go_wp2_with fail
        go_ret
        exact ⟨ret_bool (by rw [hR'.out]; rfl), b1⟩
      · by_cases h9 : o = 9
        · subst h9
          go_wp2_with fail
          go_ret
          exact ⟨ret_bool (by rw [hR'.out]; rfl), b1⟩
        · have e12 : Hid (lastOk o = false) := (by simp [lastOk, h12, h9] : _ = _)
          go_wp2_with fail
          go_ret
          exact ⟨ret_bool (by rw [hR'.out, e12.out]; simp [h9, h12]), b1⟩

theorem procS (lo hi : Int) (a : Option Addr) (b off n cap : Nat) (c : Nat → Nat → Int) (procs : Int) (w : World) (hn : n ≤ 1048576) (hC : CodeAt a b off n c w) :
    Calls Try.prog 111 #[.agg #[.int .i64 lo, .int .i64 hi, .slice a n cap], .int .i64 procs] w fun e w' => e = .returned (.bool (procOk ⟨lo, hi, n, c⟩ procs)) ∧ Below w.heap.size w w' := by
  cases g0 : okB lo
  · exact procS_a _ _ _ _ _ _ _ _ g0
  cases g1 : okB hi
  · exact procS_b _ _ _ _ _ _ _ _ g0 g1
  by_cases g2 : hi < lo
  · exact procS_c _ _ _ _ _ _ _ _ g0 g1 g2
  cases g3 : inB n 1 10
  · exact procS_d _ _ _ _ _ _ _ _ g0 g1 (by omega) g3
  · exact procS_e _ _ _ _ _ _ _ _ _ _ hn hC g0 g1 (by omega) g3
end Go.Proofs.Ytdpkbbbfnmneiaa
namespace Go.Proofs.Ytdpkbbbfnmneiaa
open Go.ChangeShapes Go.WideShapes Go.ChangeAt Go.RowKit

/-- What a round holds: the program's own cell, the procedure's three cells, and that nothing older has turned. -/
def Q5 (V : World) (y b q : Nat) (x x0 x1 x2 : Value) (W : World) : Prop := W.cell? ⟨y, 0, none⟩ = some x ∧ W.cell? ⟨b, q, none⟩ = some x0 ∧ W.cell? ⟨b, q + 1, none⟩ = some x1 ∧ W.cell? ⟨b, q + 2, none⟩ = some x2 ∧ Below V.heap.size V W
theorem Q5.next {V : World} {y b q : Nat} {x x0 x1 x2 : Value} {W W' : World} (k : Q5 V y b q x x0 x1 x2 W) (hg : y < V.heap.size ∧ b < V.heap.size) (hb : Below W.heap.size W W') : Q5 V y b q x x0 x1 x2 W' := by
  have s := k.2.2.2.2.size
  have p : ∀ o, W'.cell? ⟨y, o, none⟩ = W.cell? ⟨y, o, none⟩ := fun o => hb.cell (p := ⟨y, o, none⟩) (show y < W.heap.size by omega)
  have r : ∀ o, W'.cell? ⟨b, o, none⟩ = W.cell? ⟨b, o, none⟩ := fun o => hb.cell (p := ⟨b, o, none⟩) (show b < W.heap.size by omega)
  obtain ⟨k0, k1, k2, k3, kb⟩ := k
  exact ⟨(p _).trans k0, (r _).trans k1, (r _).trans k2, (r _).trans k3, below_tr kb hb⟩

set_option maxRecDepth 10000 in
set_option maxHeartbeats 4000000 in
theorem prgOkS (a : Option Addr) (b off m cap : Nat) (P : Nat → Proc) (S : Nat → Spot) (w : World) (hm : m ≤ 1048576) (hn : ∀ i, i < m → (P i).n ≤ 1048576) (hP : ProcsAt a b off m P S w) :
    Calls Try.prog 84 #[.agg #[.slice a m cap]] w fun e w' => e = .returned (.bool (prgOk P m)) ∧ Below w.heap.size w w' := by
  have b0 : Below w.heap.size w (w.alloc (.cells #[.slice a m cap] 35)) := (Below.refl w.heap.size w).alloc (Nat.le_refl _) _
  have hP0 := hP.next b0
  cases g0 : inB m 1 4
  · have hR : prgOk P m = false := by simp [prgOk, g0]
    rw [hR]
    clear hR hP0 hP hn
    go_enter Try.func84, Try.ntmps84
    go_wp2_with (go_at_call 56; refine (inS _ _ _ _).mono ?_; rintro e w' ⟨rfl, rfl⟩; rw [g0])
    go_ret
    exact ⟨rfl, b0⟩
  have h1m : 1 ≤ m := by simp [inB] at g0; omega
  have e1 := hP.at_ (by omega)
  have hb := hP0.lt (by omega)
  have hR : Hid (prgOk P m = procsOk P m m) := by
    show prgOk P m = procsOk P m m
    simp only [prgOk, g0, Bool.true_and]
  subst e1
  clear hP
  have cc : (w.alloc (.cells #[.slice (some ⟨b, off, none⟩) m cap] 35)).cell? ⟨w.heap.size, 0, none⟩ = some (.slice (some ⟨b, off, none⟩) m cap) := by simp [go_sem]
  have hy : w.heap.size < (w.alloc (.cells #[.slice (some ⟨b, off, none⟩) m cap] 35)).heap.size := by simp
  go_enter Try.func84, Try.ntmps84
  go_wp2_with (go_at_call 56; refine (inS _ _ _ _).mono ?_; rintro e w' ⟨rfl, rfl⟩; rw [g0])
  generalize w.alloc (.cells #[.slice (some ⟨b, off, none⟩) m cap] 35) = V at b0 hP0 hb cc hy ⊢
  generalize w.heap.size = y at cc hy ⊢
  go_loopw [3] (fun i wr => ∃ k : Nat, k ≤ m ∧ i = .int .i64 k ∧ Hid (procsOk P m k = true) ∧ Below V.heap.size V wr) (fun i _ => m - (intOf i).toNat)
  case atStart => exact ⟨0, Nat.zero_le _, rfl, (rfl : _ = _), Below.refl _ _⟩
  case round =>
    obtain ⟨k, hk, rfl, hO, hB⟩ := hrel
    have c0 := (hB.cell (p := ⟨y, 0, none⟩) hy).trans cc
    have b1 := below_tr b0 hB
    by_cases hlt : k < m
    · have H := hP0.next hB.drew
      have d0 := H.lo k hlt
      have d1 := H.hi k hlt
      have d2 := H.code k hlt
      have hC := H.steps k hlt
      have hn' := hn k hlt
      have E0 : Q5 V y b (off + k * 3) (.slice (some ⟨b, off, none⟩) m cap) (.int .i64 (P k).lo) (.int .i64 (P k).hi) (.slice (S k).a (P k).n (S k).cap) wr.drew := ⟨c0, d0, d1, d2, hB.drew⟩
      have t1 : ((k : Int)).toNat = k := by omega
      have t2 : (0 : Int) ≤ (k : Int) := by omega
      have t3 : (k : Int) < (m : Int) := by omega
      clear H hP0 hn d0 d1 d2
      go_wp2_with fail
      go_region_held3 (fun W => W.cell? ⟨y, 0, none⟩ = some (.slice (some ⟨b, off, none⟩) m cap) ∧ W.cell? ⟨b, off + k * 3, none⟩ = some (.int .i64 (P k).lo) ∧ W.cell? ⟨b, off + k * 3 + 1, none⟩ = some (.int .i64 (P k).hi) ∧ W.cell? ⟨b, off + k * 3 + 2, none⟩ = some (.slice (S k).a (P k).n (S k).cap) ∧ Below V.heap.size V W) (first | exact E0 | exact Q5.next (by assumption) ⟨hy, hb⟩ h1 | go_keep) (first | (go_at_call 111; refine (procS _ _ _ _ _ _ _ _ _ _ hn' hC).mono ?_; rintro e w1 ⟨rfl, h1⟩))
      have b2 := below_tr b1.drew h1
      have hB2 := below_tr hB.drew h1
      cases hs : procOk (P k) m
      · go_wp2_with fail
        go_ret
        exact ⟨ret_bool (by rw [hR.out, procsOk_false hlt hs]), b2⟩
      · have hS : Hid (procOk (P k) m = true) := hs
        clear hs
        go_wp2_with fail
        go_roundw
        case rel => exact ⟨k + 1, by omega, by go_num, (by simp only [procsOk, hO.out, hS.out, Bool.and_self] : _ = _), hB2⟩
        case measure => simp [intOf]; omega
    · obtain rfl : k = m := by omega
      clear hP0 hn
      go_wp2_with fail
      go_ret
      exact ⟨ret_bool (by rw [hR.out, hO.out]), b1⟩
end Go.Proofs.Ytdpkbbbfnmneiaa
namespace Go.Proofs.Ytdpkbbbfnmneiaa
open Go.ChangeShapes Go.WideShapes Go.ChangeAt Go.RowKit

theorem countI (n x : Int) (w : World) :
    Calls Try.prog 122 #[.int .i64 n, .int .i64 x] w fun e w' => e = .returned (.bool (inB n 1 x)) ∧ w' = w := by
  by_cases h1 : 1 ≤ n
  · go_enter Try.func122, Try.ntmps122
    go_wp2
    all_goals go_ret
    all_goals exact ⟨ret_bool (by simp [inB, h1]), rfl⟩
  · go_enter Try.func122, Try.ntmps122
    go_wp2
    all_goals go_ret
    all_goals exact ⟨ret_bool (by simp [inB]; omega), rfl⟩

theorem givenI (lo hi : Int) (a : Option Addr) (n cap : Nat) (w : World) :
    Calls Try.prog 108 #[.agg #[.int .i64 lo, .int .i64 hi, .slice a n cap]] w fun e w' => e = .returned (.agg #[.int .i64 lo, .int .i64 hi]) ∧ Below w.heap.size w w' := by
  go_enter Try.func108, Try.ntmps108
  go_wp2
  refine bodyPost_ret (v := .agg #[.int .i64 lo, .int .i64 hi]) (by simp [results, Try.results108, go_sem]) rfl ⟨rfl, ?_⟩
  repeat (first | exact Below.refl _ _ | refine Below.drew ?_ | refine Below.alloc ?_ (by simp; try omega) _ | refine Below.setCell ?_ (by simp; try omega) _)

set_option maxHeartbeats 1000000 in
theorem endsI (o d a b r l h t : Int) (w : World) :
    Calls Try.prog 128 #[.agg #[.int .i64 o, .int .i64 d, .int .i64 a, .int .i64 b, .int .i64 r, .int .i64 l, .int .i64 h, .int .i64 t]] w fun e w' => e = .returned (.bool (lastOk o)) ∧ Below w.heap.size w w' := by
  have b0 : Below w.heap.size w (w.alloc (.cells #[.int .i64 o, .int .i64 d, .int .i64 a, .int .i64 b, .int .i64 r, .int .i64 l, .int .i64 h, .int .i64 t] 72)) := (Below.refl w.heap.size w).alloc (Nat.le_refl _) _
  by_cases h12 : o = 12
  · subst h12
    go_enter Try.func128, Try.ntmps128
    go_wp2
    go_ret
    exact ⟨rfl, b0⟩
  · by_cases h9 : o = 9
    · subst h9
      go_enter Try.func128, Try.ntmps128
      go_wp2
      go_ret
      exact ⟨rfl, b0⟩
    · go_enter Try.func128, Try.ntmps128
      go_wp2
      go_ret
      exact ⟨ret_bool (by simp [lastOk, h12, h9]), b0⟩

set_option maxHeartbeats 2000000 in
theorem procI_a (lo hi : Int) (a : Option Addr) (n cap : Nat) (c : Nat → Nat → Int) (procs : Int) (w : World) (g0 : itvOk lo hi = false) :
    Calls Try.prog 123 #[.agg #[.int .i64 lo, .int .i64 hi, .slice a n cap], .int .i64 procs] w fun e w' => e = .returned (.bool (procOk ⟨lo, hi, n, c⟩ procs)) ∧ Below w.heap.size w w' := by
  have b0 : Below w.heap.size w (w.alloc (.cells #[.int .i64 lo, .int .i64 hi, .slice a n cap] 89)) := (Below.refl w.heap.size w).alloc (Nat.le_refl _) _
  have hR : procOk ⟨lo, hi, n, c⟩ procs = false := by simp [procOk, g0]
  rw [hR]
  clear hR
  go_enter Try.func123, Try.ntmps123
  go_wp2_with fail
  refine (givenI _ _ _ _ _ _).mono ?_
  rintro e w0 ⟨rfl, h0⟩
  go_wp2_with fail
  refine (itvOkI _ _ _).mono ?_
  rintro e w1 ⟨rfl, h1'⟩
  have h1 := below_tr h0 h1'
  clear h0 h1'
  rw [g0]
  have b1 := below_tr b0 h1
  go_wp2_with fail
  go_ret
  exact ⟨rfl, b1⟩

set_option maxHeartbeats 2000000 in
theorem procI_d (lo hi : Int) (a : Option Addr) (n cap : Nat) (c : Nat → Nat → Int) (procs : Int) (w : World) (g0 : itvOk lo hi = true) (g3 : inB n 1 10 = false) :
    Calls Try.prog 123 #[.agg #[.int .i64 lo, .int .i64 hi, .slice a n cap], .int .i64 procs] w fun e w' => e = .returned (.bool (procOk ⟨lo, hi, n, c⟩ procs)) ∧ Below w.heap.size w w' := by
  have b0 : Below w.heap.size w (w.alloc (.cells #[.int .i64 lo, .int .i64 hi, .slice a n cap] 89)) := (Below.refl w.heap.size w).alloc (Nat.le_refl _) _
  have hR : procOk ⟨lo, hi, n, c⟩ procs = false := by simp [procOk, g3]
  rw [hR]
  clear hR
  go_enter Try.func123, Try.ntmps123
  go_wp2_with fail
  refine (givenI _ _ _ _ _ _).mono ?_
  rintro e w0 ⟨rfl, h0⟩
  go_wp2_with fail
  refine (itvOkI _ _ _).mono ?_
  rintro e w1 ⟨rfl, h1'⟩
  have h1 := below_tr h0 h1'
  clear h0 h1'
  rw [g0]
  have b1 := below_tr b0 h1
  go_wp2_with (go_at_call 122; refine (countI _ _ _).mono ?_; rintro e w' ⟨rfl, rfl⟩; rw [g3])
  go_ret
  exact ⟨rfl, b1⟩

set_option maxHeartbeats 4000000 in
theorem procI_e (lo hi : Int) (a : Option Addr) (b off n cap : Nat) (c : Nat → Nat → Int) (procs : Int) (w : World) (hn : n ≤ 1048576) (hC : CodeAt a b off n c w) (g0 : itvOk lo hi = true) (g3 : inB n 1 10 = true) :
    Calls Try.prog 123 #[.agg #[.int .i64 lo, .int .i64 hi, .slice a n cap], .int .i64 procs] w fun e w' => e = .returned (.bool (procOk ⟨lo, hi, n, c⟩ procs)) ∧ Below w.heap.size w w' := by
  have b0 : Below w.heap.size w (w.alloc (.cells #[.int .i64 lo, .int .i64 hi, .slice a n cap] 89)) := (Below.refl w.heap.size w).alloc (Nat.le_refl _) _
  have hC0 := hC.next b0
  have h1n : 1 ≤ n := by simp [inB] at g3; omega
  have e1 := hC.at_ (by omega)
  have hR : Hid (procOk ⟨lo, hi, n, c⟩ procs = (codeOk c procs n n && lastOk (c (n - 1) 0))) := by
    show procOk ⟨lo, hi, n, c⟩ procs = (codeOk c procs n n && lastOk (c (n - 1) 0))
    simp only [procOk, g0, g3, Bool.true_and]
  have cc : (w.alloc (.cells #[.int .i64 lo, .int .i64 hi, .slice a n cap] 89)).cell? ⟨w.heap.size, 2, none⟩ = some (.slice a n cap) := by simp [go_sem]
  subst e1
  clear hC
  go_enter Try.func123, Try.ntmps123
  go_wp2_with fail
  refine (givenI _ _ _ _ _ _).mono ?_
  rintro e w0 ⟨rfl, h0⟩
  go_wp2_with fail
  refine (itvOkI _ _ _).mono ?_
  rintro e w1 ⟨rfl, h1'⟩
  have h1 := below_tr h0 h1'
  clear h0 h1'
  rw [g0]
  obtain ⟨hc, hf⟩ := bcell h1
  go_wp2_with (go_at_call 122; refine (countI _ _ _).mono ?_; rintro e w' ⟨rfl, rfl⟩; rw [g3])
  clear hc hf
  go_loopw [23] (fun i wr => ∃ k : Nat, k ≤ n ∧ i = .int .i64 k ∧ Hid (codeOk c procs n k = true) ∧ Below (w.alloc (.cells #[.int .i64 lo, .int .i64 hi, .slice (some ⟨b, off, none⟩) n cap] 89)).heap.size (w.alloc (.cells #[.int .i64 lo, .int .i64 hi, .slice (some ⟨b, off, none⟩) n cap] 89)) wr) (fun i _ => n - (intOf i).toNat)
  case atStart => exact ⟨0, Nat.zero_le _, rfl, (rfl : _ = _), h1⟩
  case round =>
    obtain ⟨k, hk, rfl, hO, hB⟩ := hrel
    have c2 := (hB.cell (p := ⟨w.heap.size, 2, none⟩) (by simp)).trans cc
    have H := hC0.next hB
    have b1 := below_tr b0 hB
    clear cc hC0
    by_cases hlt : k < n
    · have t1 : ((k : Int)).toNat = k := by omega
      have t2 : (0 : Int) ≤ (k : Int) := by omega
      have t3 : (k : Int) < (n : Int) := by omega
      have d0 := H.cell k 0 hlt (by omega)
      have d1 := H.cell k 1 hlt (by omega)
      have d2 := H.cell k 2 hlt (by omega)
      have d3 := H.cell k 3 hlt (by omega)
      have d4 := H.cell k 4 hlt (by omega)
      have d5 := H.cell k 5 hlt (by omega)
      have d6 := H.cell k 6 hlt (by omega)
      have d7 := H.cell k 7 hlt (by omega)
      rw [Nat.add_zero] at d0
      clear H
      have kA : Below wr.heap.size wr (wr.alloc (.cells #[.int .i64 (c k 0), .int .i64 (c k 1), .int .i64 (c k 2), .int .i64 (c k 3), .int .i64 (c k 4), .int .i64 (c k 5), .int .i64 (c k 6), .int .i64 (c k 7)] 72)) := (Below.refl _ _).alloc (Nat.le_refl _) _
      have hBA := below_tr hB kA
      have b1A := below_tr b1 kA
      clear kA
      go_wp2_with fail
      refine (insOkI _ _ _ _ _ _ _ _ _ _ _).mono ?_
      rintro e w1 ⟨rfl, h1⟩
      have b2 := below_tr b1A h1
      have hB2 := below_tr hBA h1
      cases hs : stepOk c procs n k
      · have hs' := hs
        simp only [stepOk] at hs'
        rw [hs']
        clear hs'
        go_wp2_with fail
        go_ret
        exact ⟨ret_bool (by rw [hR.out, codeOk_false hlt hs]; rfl), b2⟩
      · have hs' := hs
        simp only [stepOk] at hs'
        rw [hs']
        clear hs'
        have hS : Hid (stepOk c procs n k = true) := hs
        clear hs
        go_wp2_with fail
        go_roundw
        case rel => exact ⟨k + 1, by omega, by go_num, (by simp only [codeOk, hO.out, hS.out, Bool.and_self] : _ = _), hB2⟩
        case measure => simp [intOf]; omega
    · obtain rfl : k = n := by omega
      have t1 : ((k : Int) - 1).toNat = k - 1 := by omega
      have t2 : (0 : Int) ≤ (k : Int) - 1 := by omega
      have t3 : (k : Int) - 1 < (k : Int) := by omega
      have hlast : k - 1 < k := by omega
      have d0 := H.cell (k - 1) 0 hlast (by omega)
      have d1 := H.cell (k - 1) 1 hlast (by omega)
      have d2 := H.cell (k - 1) 2 hlast (by omega)
      have d3 := H.cell (k - 1) 3 hlast (by omega)
      have d4 := H.cell (k - 1) 4 hlast (by omega)
      have d5 := H.cell (k - 1) 5 hlast (by omega)
      have d6 := H.cell (k - 1) 6 hlast (by omega)
      have d7 := H.cell (k - 1) 7 hlast (by omega)
      rw [Nat.add_zero] at d0
      clear H
      have hR' : Hid (procOk ⟨lo, hi, k, c⟩ procs = lastOk (c (k - 1) 0)) := (by rw [hR.out, hO.out, Bool.true_and] : _ = _)
      clear hR
      go_wp2_with fail
      refine (endsI _ _ _ _ _ _ _ _ _).mono ?_
      rintro e w2 ⟨rfl, h2⟩
      have b2 := below_tr b1 h2
      go_wp2_with fail
      go_ret
      exact ⟨ret_bool (by rw [hR'.out]), b2⟩

theorem procI (lo hi : Int) (a : Option Addr) (b off n cap : Nat) (c : Nat → Nat → Int) (procs : Int) (w : World) (hn : n ≤ 1048576) (hC : CodeAt a b off n c w) :
    Calls Try.prog 123 #[.agg #[.int .i64 lo, .int .i64 hi, .slice a n cap], .int .i64 procs] w fun e w' => e = .returned (.bool (procOk ⟨lo, hi, n, c⟩ procs)) ∧ Below w.heap.size w w' := by
  cases g0 : itvOk lo hi
  · exact procI_a _ _ _ _ _ _ _ _ g0
  cases g3 : inB n 1 10
  · exact procI_d _ _ _ _ _ _ _ _ g0 g3
  · exact procI_e _ _ _ _ _ _ _ _ _ _ hn hC g0 g3
end Go.Proofs.Ytdpkbbbfnmneiaa
namespace Go.Proofs.Ytdpkbbbfnmneiaa
open Go.ChangeShapes Go.WideShapes Go.ChangeAt Go.RowKit

set_option maxHeartbeats 4000000 in
theorem prgOkI (a : Option Addr) (b off m cap : Nat) (P : Nat → Proc) (S : Nat → Spot) (w : World) (hm : m ≤ 1048576) (hn : ∀ i, i < m → (P i).n ≤ 1048576) (hP : ProcsAt a b off m P S w) :
    Calls Try.prog 102 #[.agg #[.slice a m cap]] w fun e w' => e = .returned (.bool (prgOk P m)) ∧ Below w.heap.size w w' := by
  have b0 : Below w.heap.size w (w.alloc (.cells #[.slice a m cap] 35)) := (Below.refl w.heap.size w).alloc (Nat.le_refl _) _
  have hP0 := hP.next b0
  cases g0 : inB m 1 4
  · have hR : prgOk P m = false := by simp [prgOk, g0]
    rw [hR]
    clear hR hP0 hP hn
    go_enter Try.func102, Try.ntmps102
    go_wp2_with (go_at_call 122; refine (countI _ _ _).mono ?_; rintro e w' ⟨rfl, rfl⟩; rw [g0])
    go_ret
    exact ⟨rfl, b0⟩
  have h1m : 1 ≤ m := by simp [inB] at g0; omega
  have e1 := hP.at_ (by omega)
  have hR : Hid (prgOk P m = procsOk P m m) := by
    show prgOk P m = procsOk P m m
    simp only [prgOk, g0, Bool.true_and]
  subst e1
  clear hP
  go_enter Try.func102, Try.ntmps102
  go_wp2_with (go_at_call 122; refine (countI _ _ _).mono ?_; rintro e w' ⟨rfl, rfl⟩; rw [g0])
  generalize w.alloc (.cells #[.slice (some ⟨b, off, none⟩) m cap] 35) = V at b0 hP0 ⊢
  go_loopw [15] (fun i wr => ∃ k : Nat, k ≤ m ∧ i = .int .i64 k ∧ Hid (procsOk P m k = true) ∧ Below V.heap.size V wr) (fun i _ => m - (intOf i).toNat)
  case atStart => exact ⟨0, Nat.zero_le _, rfl, (rfl : _ = _), Below.refl _ _⟩
  case round =>
    obtain ⟨k, hk, rfl, hO, hB⟩ := hrel
    have b1 := below_tr b0 hB
    by_cases hlt : k < m
    · have H := hP0.next hB
      have d0 := H.lo k hlt
      have d1 := H.hi k hlt
      have d2 := H.code k hlt
      have hC := H.steps k hlt
      have hn' := hn k hlt
      have t1 : ((k : Int)).toNat = k := by omega
      have t2 : (0 : Int) ≤ (k : Int) := by omega
      have t3 : (k : Int) < (m : Int) := by omega
      have kA : Below wr.heap.size wr (wr.alloc (.cells #[.int .i64 (P k).lo, .int .i64 (P k).hi, .slice (S k).a (P k).n (S k).cap] 89)) := (Below.refl _ _).alloc (Nat.le_refl _) _
      have hBA := below_tr hB kA
      have b1A := below_tr b1 kA
      have hC' := hC.next kA
      clear H hP0 hn kA hC
      go_wp2_with fail
      refine (procI _ _ _ _ _ _ _ _ _ _ hn' hC').mono ?_
      rintro e w1 ⟨rfl, h1⟩
      have b2 := below_tr b1A h1
      have hB2 := below_tr hBA h1
      clear hC'
      cases hs : procOk (P k) m
      · go_wp2_with fail
        go_ret
        exact ⟨ret_bool (by rw [hR.out, procsOk_false hlt hs]), b2⟩
      · have hS : Hid (procOk (P k) m = true) := hs
        clear hs
        go_wp2_with fail
        go_roundw
        case rel => exact ⟨k + 1, by omega, by go_num, (by simp only [procsOk, hO.out, hS.out, Bool.and_self] : _ = _), hB2⟩
        case measure => simp [intOf]; omega
    · obtain rfl : k = m := by omega
      clear hP0 hn
      go_wp2_with fail
      go_ret
      exact ⟨ret_bool (by rw [hR.out, hO.out]), b1⟩
end Go.Proofs.Ytdpkbbbfnmneiaa
