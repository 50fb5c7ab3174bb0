/- The program's PrgOk answers what the plain prgOk says; it makes memory of its own alone. -/
import Derived.Test.YtdpkbbbfnmneiaaPrgOkI1
namespace Go.Proofs.Ytdpkbbbfnmneiaa
open Go.ChangeShapes Go.WideShapes Go.ChangeAt Go.RowKit

set_option maxHeartbeats 4000000 in
theorem prgOkI (a : Option Addr) (b off m cap : Nat) (P : Nat → Proc) (S : Nat → Spot) (w : World) (hm : m ≤ 1048576) (hn : ∀ i, i < m → (P i).n ≤ 1048576) (hP : ProcsAt a b off m P S w) :
    Calls Try.prog 102 #[.agg #[.slice a m cap]] w fun e w' => e = .returned (.bool (prgOk P m)) ∧ Below w.heap.size w w' := by
  have b0 : Below w.heap.size w (w.alloc (.cells #[.slice a m cap] 35)) := (Below.refl w.heap.size w).alloc (Nat.le_refl _) _
  have hP0 := hP.next b0
  cases g0 : inB m 1 4
  · have hR : prgOk P m = false := by simp [prgOk, g0]
    rw [hR]
    clear hR hP0 hP hn
    go_enter Try.func102, Try.ntmps102
    go_wp2_with (go_at_call 122; refine (countI _ _ _).mono ?_; rintro e w' ⟨rfl, rfl⟩; rw [g0])
    go_ret
    exact ⟨rfl, b0⟩
  have h1m : 1 ≤ m := by simp [inB] at g0; omega
  have e1 := hP.at_ (by omega)
  have hR : Hid (prgOk P m = procsOk P m m) := by
    show prgOk P m = procsOk P m m
    simp only [prgOk, g0, Bool.true_and]
  subst e1
  clear hP
  go_enter Try.func102, Try.ntmps102
  go_wp2_with (go_at_call 122; refine (countI _ _ _).mono ?_; rintro e w' ⟨rfl, rfl⟩; rw [g0])
  generalize w.alloc (.cells #[.slice (some ⟨b, off, none⟩) m cap] 35) = V at b0 hP0 ⊢
  go_loopw [15] (fun i wr => ∃ k : Nat, k ≤ m ∧ i = .int .i64 k ∧ Hid (procsOk P m k = true) ∧ Below V.heap.size V wr) (fun i _ => m - (intOf i).toNat)
  case atStart => exact ⟨0, Nat.zero_le _, rfl, (rfl : _ = _), Below.refl _ _⟩
  case round =>
    obtain ⟨k, hk, rfl, hO, hB⟩ := hrel
    have b1 := below_tr b0 hB
    by_cases hlt : k < m
    · have H := hP0.next hB
      have d0 := H.lo k hlt
      have d1 := H.hi k hlt
      have d2 := H.code k hlt
      have hC := H.steps k hlt
      have hn' := hn k hlt
      have t1 : ((k : Int)).toNat = k := by omega
      have t2 : (0 : Int) ≤ (k : Int) := by omega
      have t3 : (k : Int) < (m : Int) := by omega
      have kA : Below wr.heap.size wr (wr.alloc (.cells #[.int .i64 (P k).lo, .int .i64 (P k).hi, .slice (S k).a (P k).n (S k).cap] 89)) := (Below.refl _ _).alloc (Nat.le_refl _) _
      have hBA := below_tr hB kA
      have b1A := below_tr b1 kA
      have hC' := hC.next kA
      clear H hP0 hn kA hC
      go_wp2_with fail
      refine (procI _ _ _ _ _ _ _ _ _ _ hn' hC').mono ?_
      rintro e w1 ⟨rfl, h1⟩
      have b2 := below_tr b1A h1
      have hB2 := below_tr hBA h1
      clear hC'
      cases hs : procOk (P k) m
      · go_wp2_with fail
        go_ret
        exact ⟨ret_bool (by rw [hR.out, procsOk_false hlt hs]), b2⟩
      · have hS : Hid (procOk (P k) m = true) := hs
        clear hs
        go_wp2_with fail
        go_roundw
        case rel => exact ⟨k + 1, by omega, by go_num, (by simp only [procsOk, hO.out, hS.out, Bool.and_self] : _ = _), hB2⟩
        case measure => simp [intOf]; omega
    · obtain rfl : k = m := by omega
      clear hP0 hn
      go_wp2_with fail
      go_ret
      exact ⟨ret_bool (by rw [hR.out, hO.out]), b1⟩
end Go.Proofs.Ytdpkbbbfnmneiaa
