/- What the laws' owInts and owHas answer of lists of ints; what is asked of where a step leads to. -/
import Derived.Test.YtafikmgpiklgkaaLst
import Derived.Test.YtafikmgpiklgkaaNextS
import Derived.WalkKit
import Derived.ProofKit
import Derived.OpenShut
import Derived.Below
import Derived.Deep.QuietTactic
import Derived.BigQuiet
import Derived.Deep.DeepCutAuto
import Derived.Deep.CutBlock
namespace Go.Proofs.Ytafikmgpiklgkaa
open Go.ChangeShapes Go.WideShapes Go.ChangeAt Go.RowKit

set_option maxHeartbeats 2000000 in
theorem owIntsI (a b : Option Addr) (ca cb B C g h n : Nat) (zs : List Int) (w : World) (hn : zs.length = n) (hbig : n < 1000000) (ha : LstAt B g a zs w) (hb : LstAt C h b zs w) :
    Calls Try.prog 6 #[.slice a n ca, .slice b n cb] w fun e w' => e = .returned (.bool true) ∧ Below w.heap.size w w' := by
  go_enter Try.func6, Try.ntmps6
  go_wp2
  go_loopw [5] (fun i wr => ∃ k : Nat, k ≤ n ∧ i = .int .i64 k ∧ Below w.heap.size w wr) (fun i _ => n - (intOf i).toNat)
  case atStart => exact ⟨0, Nat.zero_le _, rfl, Below.refl _ _⟩
  case round =>
    obtain ⟨k, hk, rfl, hB⟩ := hrel
    by_cases hlt : k < n
    · have h0 : 0 < zs.length := by omega
      have e1 := ha.at_ h0
      have e2 := hb.at_ h0
      subst e1 e2
      have c1 := (ha.next hB).cell k (by omega)
      have c2 := (hb.next hB).cell k (by omega)
      have t1 : ((k : Int)).toNat = k := by omega
      have t2 : (0 : Int) ≤ (k : Int) := by omega
      have t3 : (k : Int) < (n : Int) := by omega
      clear ha hb hn h0
      generalize zs.getD k 0 = x at c1 c2
      go_wp2_with fail
      go_quiet (fail)
      go_wp2
      go_roundw
      case rel => exact ⟨k + 1, by omega, by go_num, below_dn hB _⟩
      case measure => simp [intOf]; omega
    · obtain rfl : k = n := by omega
      go_wp2
      go_ret
      exact ⟨rfl, hB⟩

set_option maxHeartbeats 2000000 in
theorem owHasI (a : Option Addr) (ca B g q j : Nat) (n : Int) (zs : List Int) (w : World) (hn : zs.length = q) (hbig : q < 1000000) (ha : LstAt B g a zs w) (hj : j < q) (hz : zs.getD j 0 = n) :
    Calls Try.prog 10 #[.slice a q ca, .int .i64 n] w fun e w' => e = .returned (.bool true) ∧ Below w.heap.size w w' := by
  have e1 := ha.at_ (by omega)
  subst e1
  have hzS : Hid (zs.getD j 0 = n) := hz
  clear hz
  go_enter Try.func10, Try.ntmps10
  go_wp2
  go_loopw [5] (fun i wr => ∃ k : Nat, k ≤ j ∧ i = .int .i64 k ∧ Below w.heap.size w wr) (fun i _ => q - (intOf i).toNat)
  case atStart => exact ⟨0, Nat.zero_le _, rfl, Below.refl _ _⟩
  case round =>
    obtain ⟨k, hk, rfl, hB⟩ := hrel
    have c1 := (ha.next hB).cell k (by omega)
    have t1 : ((k : Int)).toNat = k := by omega
    have t2 : (0 : Int) ≤ (k : Int) := by omega
    have t3 : (k : Int) < (q : Int) := by omega
    by_cases he : k = j
    · subst he
      rw [hzS.out] at c1
      clear ha hn hzS
      go_wp2
      go_ret
      exact ⟨rfl, hB⟩
    · obtain ⟨x, hx⟩ : ∃ x, zs.getD k 0 = x := ⟨_, rfl⟩
      rw [hx] at c1
      have hxS : Hid (zs.getD k 0 = x) := hx
      clear hx ha
      by_cases hxn : x = n
      · subst hxn
        go_wp2
        go_ret
        exact ⟨rfl, hB⟩
      · have hb : (x == n) = false := by simp [hxn]
        go_wp2
        go_roundw
        case rel => exact ⟨k + 1, by omega, by go_num, hB⟩
        case measure => simp [intOf]; omega
theorem next_facts {o t n : Int} {zs : List Int} (h : nextL o t (n + 1) = zs) :
    (zs.length = 0 ↔ o = 12) ∧ zs.length ≤ 2 ∧ (zs.length = 2 → zs.getD 0 0 < zs.getD 1 0) ∧ (∀ j, j < zs.length → zs.getD j 0 = n + 1 ∨ (zs.getD j 0 = t ∧ (o = 8 ∨ o = 9))) ∧ (o ≠ 12 → o ≠ 9 → ∃ j, j < zs.length ∧ zs.getD j 0 = n + 1) := by
  subst h
  unfold nextL
  by_cases h1 : o = 12
  · simp [h1]
  by_cases h2 : o = 9
  · subst h2
    refine ⟨by simp, by simp, by simp, fun j hj => ?_, fun _ h => absurd rfl h⟩
    have : j = 0 := by simpa using hj
    subst this
    simp
  by_cases h3 : o = 8
  · subst h3
    by_cases h4 : t < n + 1
    · simp only [h4, if_true, if_false, show ¬ (8 : Int) = 12 by omega, show ¬ (8 : Int) = 9 by omega]
      refine ⟨by simp, by simp, fun _ => by simpa using h4, fun j hj => ?_, fun _ _ => ⟨1, by simp, by simp⟩⟩
      rcases (show j = 0 ∨ j = 1 by simp at hj; omega) with rfl | rfl <;> simp
    · by_cases h5 : n + 1 < t
      · simp only [h4, h5, if_true, if_false, show ¬ (8 : Int) = 12 by omega, show ¬ (8 : Int) = 9 by omega]
        refine ⟨by simp, by simp, fun _ => by simpa using h5, fun j hj => ?_, fun _ _ => ⟨0, by simp, by simp⟩⟩
        rcases (show j = 0 ∨ j = 1 by simp at hj; omega) with rfl | rfl <;> simp
      · simp only [h4, h5, if_true, if_false, show ¬ (8 : Int) = 12 by omega, show ¬ (8 : Int) = 9 by omega]
        refine ⟨by simp, by simp, by simp, fun j hj => ?_, fun _ _ => ⟨0, by simp, by simp⟩⟩
        have : j = 0 := by simpa using hj
        subst this
        simp
  · simp only [h1, h2, h3, if_false]
    refine ⟨by simp, by simp, by simp, fun j hj => ?_, fun _ _ => ⟨0, by simp, by simp⟩⟩
    have : j = 0 := by simpa using hj
    subst this
    simp
theorem next_no {o d a b r l h t n : Int} (k : insOk o d a b r l h t 4 10 = false ∨ n < 0 ∨ 10 ≤ n) : insNext o d a b r l h t n = [] := by
  unfold insNext
  rcases k with k | k | k
  · simp [k]
  · rw [if_neg (by simp [inB]; omega)]
  · rw [if_neg (by simp [inB]; omega)]
theorem next_yes {o d a b r l h t n : Int} (k : insOk o d a b r l h t 4 10 = true) (h0 : 0 ≤ n) (h9 : n < 10) : insNext o d a b r l h t n = nextL o t (n + 1) := by
  unfold insNext
  rw [if_pos (by simp [k, inB]; omega)]
theorem owOkT (w : World) : Calls Try.prog 9 #[] w fun e w' => e = .returned (.bool true) ∧ w' = w := by
  go_enter Try.func9, Try.ntmps9
  go_wp2_with (go_at_call 22; refine (okI _ _).mono ?_; rintro e w' ⟨rfl, rfl⟩)
  go_ret
  exact ⟨rfl, rfl⟩
end Go.Proofs.Ytafikmgpiklgkaa
