/- PrgOk, the model's: which procedures and programs are ok. It makes memory of its own alone. -/
import Derived.Test.YtdpkbbbfnmneiaaPlainPrg
import Derived.Test.YtdpkbbbfnmneiaaPrgEq
import Derived.Test.YtdpkbbbfnmneiaaInsS5
import Derived.Test.YtdpkbbbfnmneiaaItv
namespace Go.Proofs.Ytdpkbbbfnmneiaa
open Go.ChangeShapes Go.WideShapes Go.ChangeAt Go.RowKit

set_option maxHeartbeats 2000000 in
theorem procS_a (lo hi : Int) (a : Option Addr) (n cap : Nat) (c : Nat → Nat → Int) (procs : Int) (w : World) (g0 : okB lo = false) :
    Calls Try.prog 111 #[.agg #[.int .i64 lo, .int .i64 hi, .slice a n cap], .int .i64 procs] w fun e w' => e = .returned (.bool (procOk ⟨lo, hi, n, c⟩ procs)) ∧ Below w.heap.size w w' := by
  have b0 : Below w.heap.size w (w.alloc (.cells #[.int .i64 lo, .int .i64 hi, .slice a n cap] 89)) := (Below.refl w.heap.size w).alloc (Nat.le_refl _) _
  have hR : procOk ⟨lo, hi, n, c⟩ procs = false := by simp [procOk, itvOk, g0]
  rw [hR]
  clear hR
  go_enter Try.func111, Try.ntmps111
  go_wp2_with (go_at_call 112; refine (okS _ _).mono ?_; rintro e w' ⟨rfl, rfl⟩; rw [g0])
  go_ret
  exact ⟨rfl, b0⟩

set_option maxHeartbeats 2000000 in
theorem procS_b (lo hi : Int) (a : Option Addr) (n cap : Nat) (c : Nat → Nat → Int) (procs : Int) (w : World) (g0 : okB lo = true) (g1 : okB hi = false) :
    Calls Try.prog 111 #[.agg #[.int .i64 lo, .int .i64 hi, .slice a n cap], .int .i64 procs] w fun e w' => e = .returned (.bool (procOk ⟨lo, hi, n, c⟩ procs)) ∧ Below w.heap.size w w' := by
  have b0 : Below w.heap.size w (w.alloc (.cells #[.int .i64 lo, .int .i64 hi, .slice a n cap] 89)) := (Below.refl w.heap.size w).alloc (Nat.le_refl _) _
  have hR : procOk ⟨lo, hi, n, c⟩ procs = false := by simp [procOk, itvOk, g1]
  rw [hR]
  clear hR
  go_enter Try.func111, Try.ntmps111
  go_wp2_with (go_at_call 112; refine (okS _ _).mono ?_; rintro e w' ⟨rfl, rfl⟩; first | rw [g0] | rw [g1])
  go_ret
  exact ⟨rfl, b0⟩

set_option maxHeartbeats 2000000 in
theorem procS_c (lo hi : Int) (a : Option Addr) (n cap : Nat) (c : Nat → Nat → Int) (procs : Int) (w : World) (g0 : okB lo = true) (g1 : okB hi = true) (g2 : hi < lo) :
    Calls Try.prog 111 #[.agg #[.int .i64 lo, .int .i64 hi, .slice a n cap], .int .i64 procs] w fun e w' => e = .returned (.bool (procOk ⟨lo, hi, n, c⟩ procs)) ∧ Below w.heap.size w w' := by
  have b0 : Below w.heap.size w (w.alloc (.cells #[.int .i64 lo, .int .i64 hi, .slice a n cap] 89)) := (Below.refl w.heap.size w).alloc (Nat.le_refl _) _
  have hR : procOk ⟨lo, hi, n, c⟩ procs = false := by simp [procOk, itvOk]; omega
  rw [hR]
  clear hR
  go_enter Try.func111, Try.ntmps111
  go_wp2_with (go_at_call 112; refine (okS _ _).mono ?_; rintro e w' ⟨rfl, rfl⟩; first | rw [g0] | rw [g1])
  go_ret
  exact ⟨rfl, b0⟩

set_option maxHeartbeats 2000000 in
theorem procS_d (lo hi : Int) (a : Option Addr) (n cap : Nat) (c : Nat → Nat → Int) (procs : Int) (w : World) (g0 : okB lo = true) (g1 : okB hi = true) (g2 : lo ≤ hi) (g3 : inB n 1 10 = false) :
    Calls Try.prog 111 #[.agg #[.int .i64 lo, .int .i64 hi, .slice a n cap], .int .i64 procs] w fun e w' => e = .returned (.bool (procOk ⟨lo, hi, n, c⟩ procs)) ∧ Below w.heap.size w w' := by
  have b0 : Below w.heap.size w (w.alloc (.cells #[.int .i64 lo, .int .i64 hi, .slice a n cap] 89)) := (Below.refl w.heap.size w).alloc (Nat.le_refl _) _
  have hR : procOk ⟨lo, hi, n, c⟩ procs = false := by simp [procOk, g3]
  rw [hR]
  clear hR
  go_enter Try.func111, Try.ntmps111
  go_wp2_with (first | (go_at_call 112; refine (okS _ _).mono ?_; rintro e w' ⟨rfl, rfl⟩; first | rw [g0] | rw [g1]) | (go_at_call 56; refine (inS _ _ _ _).mono ?_; rintro e w' ⟨rfl, rfl⟩; rw [g3]))
  go_ret
  exact ⟨rfl, b0⟩

set_option maxHeartbeats 4000000 in
theorem procS_e (lo hi : Int) (a : Option Addr) (b off n cap : Nat) (c : Nat → Nat → Int) (procs : Int) (w : World) (hn : n ≤ 1048576) (hC : CodeAt a b off n c w) (g0 : okB lo = true) (g1 : okB hi = true) (g2 : lo ≤ hi) (g3 : inB n 1 10 = true) :
    Calls Try.prog 111 #[.agg #[.int .i64 lo, .int .i64 hi, .slice a n cap], .int .i64 procs] w fun e w' => e = .returned (.bool (procOk ⟨lo, hi, n, c⟩ procs)) ∧ Below w.heap.size w w' := by
  have b0 : Below w.heap.size w (w.alloc (.cells #[.int .i64 lo, .int .i64 hi, .slice a n cap] 89)) := (Below.refl w.heap.size w).alloc (Nat.le_refl _) _
  have hC0 := hC.next b0
  have h1n : 1 ≤ n := by simp [inB] at g3; omega
  have e1 := hC.at_ (by omega)
  have hR : Hid (procOk ⟨lo, hi, n, c⟩ procs = (codeOk c procs n n && lastOk (c (n - 1) 0))) := by
    have : itvOk lo hi = true := by simp [itvOk, g0, g1, g2]
    show procOk ⟨lo, hi, n, c⟩ procs = (codeOk c procs n n && lastOk (c (n - 1) 0))
    simp only [procOk, this, g3, Bool.true_and]
  have cc : (w.alloc (.cells #[.int .i64 lo, .int .i64 hi, .slice a n cap] 89)).cell? ⟨w.heap.size, 2, none⟩ = some (.slice a n cap) := by simp [go_sem]
  subst e1
  clear hC
  go_enter Try.func111, Try.ntmps111
  go_wp2_with (first | (go_at_call 112; refine (okS _ _).mono ?_; rintro e w' ⟨rfl, rfl⟩; first | rw [g0] | rw [g1]) | (go_at_call 56; refine (inS _ _ _ _).mono ?_; rintro e w' ⟨rfl, rfl⟩; rw [g3]))
  go_loopw [6] (fun i wr => ∃ k : Nat, k ≤ n ∧ i = .int .i64 k ∧ Hid (codeOk c procs n k = true) ∧ Below (w.alloc (.cells #[.int .i64 lo, .int .i64 hi, .slice (some ⟨b, off, none⟩) n cap] 89)).heap.size (w.alloc (.cells #[.int .i64 lo, .int .i64 hi, .slice (some ⟨b, off, none⟩) n cap] 89)) wr) (fun i _ => n - (intOf i).toNat)
  case atStart => exact ⟨0, Nat.zero_le _, rfl, (rfl : _ = _), Below.refl _ _⟩
  case round =>
    obtain ⟨k, hk, rfl, hO, hB⟩ := hrel
    have c2 := (hB.cell (p := ⟨w.heap.size, 2, none⟩) (by simp)).trans cc
    have H := hC0.next hB
    have b1 := below_tr b0 hB
    clear cc hC0
    by_cases hlt : k < n
    · have t1 : ((k : Int)).toNat = k := by omega
      have t2 : (0 : Int) ≤ (k : Int) := by omega
      have t3 : (k : Int) < (n : Int) := by omega
      have d0 := H.cell k 0 hlt (by omega)
      have d1 := H.cell k 1 hlt (by omega)
      have d2 := H.cell k 2 hlt (by omega)
      have d3 := H.cell k 3 hlt (by omega)
      have d4 := H.cell k 4 hlt (by omega)
      have d5 := H.cell k 5 hlt (by omega)
      have d6 := H.cell k 6 hlt (by omega)
      have d7 := H.cell k 7 hlt (by omega)
      rw [Nat.add_zero] at d0
      clear H
      go_wp2_with fail
      refine (insOkS _ _ _ _ _ _ _ _ _ _ _).mono ?_
      rintro e w1 ⟨rfl, h1⟩
      have b2 := below_tr b1 h1
      have hB2 := below_tr hB h1
      cases hs : stepOk c procs n k
      · have hs' := hs
        simp only [stepOk] at hs'
        rw [hs']
        clear hs'
        go_wp2_with fail
        go_ret
        exact ⟨ret_bool (by rw [hR.out, codeOk_false hlt hs]; rfl), b2⟩
      · have hs' := hs
        simp only [stepOk] at hs'
        rw [hs']
        clear hs'
        have hS : Hid (stepOk c procs n k = true) := hs
        clear hs
        go_wp2_with fail
        go_roundw
        case rel => exact ⟨k + 1, by omega, by go_num, (by simp only [codeOk, hO.out, hS.out, Bool.and_self] : _ = _), hB2⟩
        case measure => simp [intOf]; omega
    · obtain rfl : k = n := by omega
      have t1 : ((k : Int) - 1).toNat = k - 1 := by omega
      have t2 : (0 : Int) ≤ (k : Int) - 1 := by omega
      have t3 : (k : Int) - 1 < (k : Int) := by omega
      have hlast : k - 1 < k := by omega
      have d0 := H.cell (k - 1) 0 hlast (by omega)
      rw [Nat.add_zero] at d0
      clear H
      have hR' : Hid (procOk ⟨lo, hi, k, c⟩ procs = lastOk (c (k - 1) 0)) := (by rw [hR.out, hO.out, Bool.true_and] : _ = _)
      clear hR
      generalize c (k - 1) 0 = o at d0 hR'
      by_cases h12 : o = 12
      · subst h12
        go_wp2_with fail
        go_ret
        exact ⟨ret_bool (by rw [hR'.out]; rfl), b1⟩
      · by_cases h9 : o = 9
        · subst h9
          go_wp2_with fail
          go_ret
          exact ⟨ret_bool (by rw [hR'.out]; rfl), b1⟩
        · have e12 : Hid (lastOk o = false) := (by simp [lastOk, h12, h9] : _ = _)
          go_wp2_with fail
          go_ret
          exact ⟨ret_bool (by rw [hR'.out, e12.out]; simp [h9, h12]), b1⟩

theorem procS (lo hi : Int) (a : Option Addr) (b off n cap : Nat) (c : Nat → Nat → Int) (procs : Int) (w : World) (hn : n ≤ 1048576) (hC : CodeAt a b off n c w) :
    Calls Try.prog 111 #[.agg #[.int .i64 lo, .int .i64 hi, .slice a n cap], .int .i64 procs] w fun e w' => e = .returned (.bool (procOk ⟨lo, hi, n, c⟩ procs)) ∧ Below w.heap.size w w' := by
  cases g0 : okB lo
  · exact procS_a _ _ _ _ _ _ _ _ g0
  cases g1 : okB hi
  · exact procS_b _ _ _ _ _ _ _ _ g0 g1
  by_cases g2 : hi < lo
  · exact procS_c _ _ _ _ _ _ _ _ g0 g1 g2
  cases g3 : inB n 1 10
  · exact procS_d _ _ _ _ _ _ _ _ g0 g1 (by omega) g3
  · exact procS_e _ _ _ _ _ _ _ _ _ _ hn hC g0 g1 (by omega) g3
end Go.Proofs.Ytdpkbbbfnmneiaa
