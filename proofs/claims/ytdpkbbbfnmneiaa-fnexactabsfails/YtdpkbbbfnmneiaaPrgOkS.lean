/- The model's PrgOk answers what the plain prgOk says; it makes memory of its own alone. -/
import Derived.Test.YtdpkbbbfnmneiaaPrgOkS1
namespace Go.Proofs.Ytdpkbbbfnmneiaa
open Go.ChangeShapes Go.WideShapes Go.ChangeAt Go.RowKit

/-- What a round holds: the program's own cell, the procedure's three cells, and that nothing older has turned. -/
def Q5 (V : World) (y b q : Nat) (x x0 x1 x2 : Value) (W : World) : Prop := W.cell? ⟨y, 0, none⟩ = some x ∧ W.cell? ⟨b, q, none⟩ = some x0 ∧ W.cell? ⟨b, q + 1, none⟩ = some x1 ∧ W.cell? ⟨b, q + 2, none⟩ = some x2 ∧ Below V.heap.size V W
theorem Q5.next {V : World} {y b q : Nat} {x x0 x1 x2 : Value} {W W' : World} (k : Q5 V y b q x x0 x1 x2 W) (hg : y < V.heap.size ∧ b < V.heap.size) (hb : Below W.heap.size W W') : Q5 V y b q x x0 x1 x2 W' := by
  have s := k.2.2.2.2.size
  have p : ∀ o, W'.cell? ⟨y, o, none⟩ = W.cell? ⟨y, o, none⟩ := fun o => hb.cell (p := ⟨y, o, none⟩) (show y < W.heap.size by omega)
  have r : ∀ o, W'.cell? ⟨b, o, none⟩ = W.cell? ⟨b, o, none⟩ := fun o => hb.cell (p := ⟨b, o, none⟩) (show b < W.heap.size by omega)
  obtain ⟨k0, k1, k2, k3, kb⟩ := k
  exact ⟨(p _).trans k0, (r _).trans k1, (r _).trans k2, (r _).trans k3, below_tr kb hb⟩

set_option maxRecDepth 10000 in
set_option maxHeartbeats 4000000 in
theorem prgOkS (a : Option Addr) (b off m cap : Nat) (P : Nat → Proc) (S : Nat → Spot) (w : World) (hm : m ≤ 1048576) (hn : ∀ i, i < m → (P i).n ≤ 1048576) (hP : ProcsAt a b off m P S w) :
    Calls Try.prog 84 #[.agg #[.slice a m cap]] w fun e w' => e = .returned (.bool (prgOk P m)) ∧ Below w.heap.size w w' := by
  have b0 : Below w.heap.size w (w.alloc (.cells #[.slice a m cap] 35)) := (Below.refl w.heap.size w).alloc (Nat.le_refl _) _
  have hP0 := hP.next b0
  cases g0 : inB m 1 4
  · have hR : prgOk P m = false := by simp [prgOk, g0]
    rw [hR]
    clear hR hP0 hP hn
    go_enter Try.func84, Try.ntmps84
    go_wp2_with (go_at_call 56; refine (inS _ _ _ _).mono ?_; rintro e w' ⟨rfl, rfl⟩; rw [g0])
    go_ret
    exact ⟨rfl, b0⟩
  have h1m : 1 ≤ m := by simp [inB] at g0; omega
  have e1 := hP.at_ (by omega)
  have hb := hP0.lt (by omega)
  have hR : Hid (prgOk P m = procsOk P m m) := by
    show prgOk P m = procsOk P m m
    simp only [prgOk, g0, Bool.true_and]
  subst e1
  clear hP
  have cc : (w.alloc (.cells #[.slice (some ⟨b, off, none⟩) m cap] 35)).cell? ⟨w.heap.size, 0, none⟩ = some (.slice (some ⟨b, off, none⟩) m cap) := by simp [go_sem]
  have hy : w.heap.size < (w.alloc (.cells #[.slice (some ⟨b, off, none⟩) m cap] 35)).heap.size := by simp
  go_enter Try.func84, Try.ntmps84
  go_wp2_with (go_at_call 56; refine (inS _ _ _ _).mono ?_; rintro e w' ⟨rfl, rfl⟩; rw [g0])
  generalize w.alloc (.cells #[.slice (some ⟨b, off, none⟩) m cap] 35) = V at b0 hP0 hb cc hy ⊢
  generalize w.heap.size = y at cc hy ⊢
  go_loopw [3] (fun i wr => ∃ k : Nat, k ≤ m ∧ i = .int .i64 k ∧ Hid (procsOk P m k = true) ∧ Below V.heap.size V wr) (fun i _ => m - (intOf i).toNat)
  case atStart => exact ⟨0, Nat.zero_le _, rfl, (rfl : _ = _), Below.refl _ _⟩
  case round =>
    obtain ⟨k, hk, rfl, hO, hB⟩ := hrel
    have c0 := (hB.cell (p := ⟨y, 0, none⟩) hy).trans cc
    have b1 := below_tr b0 hB
    by_cases hlt : k < m
    · have H := hP0.next hB.drew
      have d0 := H.lo k hlt
      have d1 := H.hi k hlt
      have d2 := H.code k hlt
      have hC := H.steps k hlt
      have hn' := hn k hlt
      have E0 : Q5 V y b (off + k * 3) (.slice (some ⟨b, off, none⟩) m cap) (.int .i64 (P k).lo) (.int .i64 (P k).hi) (.slice (S k).a (P k).n (S k).cap) wr.drew := ⟨c0, d0, d1, d2, hB.drew⟩
      have t1 : ((k : Int)).toNat = k := by omega
      have t2 : (0 : Int) ≤ (k : Int) := by omega
      have t3 : (k : Int) < (m : Int) := by omega
      clear H hP0 hn d0 d1 d2
      go_wp2_with fail
      go_region_held3 (fun W => W.cell? ⟨y, 0, none⟩ = some (.slice (some ⟨b, off, none⟩) m cap) ∧ W.cell? ⟨b, off + k * 3, none⟩ = some (.int .i64 (P k).lo) ∧ W.cell? ⟨b, off + k * 3 + 1, none⟩ = some (.int .i64 (P k).hi) ∧ W.cell? ⟨b, off + k * 3 + 2, none⟩ = some (.slice (S k).a (P k).n (S k).cap) ∧ Below V.heap.size V W) (first | exact E0 | exact Q5.next (by assumption) ⟨hy, hb⟩ h1 | go_keep) (first | (go_at_call 111; refine (procS _ _ _ _ _ _ _ _ _ _ hn' hC).mono ?_; rintro e w1 ⟨rfl, h1⟩))
      have b2 := below_tr b1.drew h1
      have hB2 := below_tr hB.drew h1
      cases hs : procOk (P k) m
      · go_wp2_with fail
        go_ret
        exact ⟨ret_bool (by rw [hR.out, procsOk_false hlt hs]), b2⟩
      · have hS : Hid (procOk (P k) m = true) := hs
        clear hs
        go_wp2_with fail
        go_roundw
        case rel => exact ⟨k + 1, by omega, by go_num, (by simp only [procsOk, hO.out, hS.out, Bool.and_self] : _ = _), hB2⟩
        case measure => simp [intOf]; omega
    · obtain rfl : k = m := by omega
      clear hP0 hn
      go_wp2_with fail
      go_ret
      exact ⟨ret_bool (by rw [hR.out, hO.out]), b1⟩
end Go.Proofs.Ytdpkbbbfnmneiaa
