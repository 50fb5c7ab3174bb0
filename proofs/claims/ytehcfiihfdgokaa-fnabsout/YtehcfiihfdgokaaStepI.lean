/- The program's kinds of steps: what stepOf makes of a step, and what each kind's ins and fits answer. Each makes memory of its own alone. -/
import Derived.Test.YtehcfiihfdgokaaPlainIns
import Derived.Test.YtehcfiihfdgokaaItvI
import Derived.Test.YtehcfiihfdgokaaHeld8
import Derived.WalkKit
import Derived.ProofKit
import Derived.OpenShut
import Derived.Below
namespace Go.Proofs.Ytehcfiihfdgokaa
open Go.ChangeShapes Go.WideShapes Go.ChangeAt Go.RowKit

def placeB (n s : Int) : Bool := decide (0 ≤ n) && decide (n < s)
theorem place4 (n : Int) : placeB n 4 = inB n 0 3 := by simp only [placeB, inB]; congr 1; simp; omega

theorem placeI (n s : Int) (w : World) :
    Calls Try.prog 48 #[.int .i64 n, .int .i64 s] w fun e w' => e = .returned (.bool (placeB n s)) ∧ w' = w := by
  by_cases h1 : 0 ≤ n
  · go_enter Try.func48, Try.ntmps48
    go_wp2
    all_goals go_ret
    all_goals exact ⟨ret_bool (by simp [placeB, h1]), rfl⟩
  · go_enter Try.func48, Try.ntmps48
    go_wp2
    all_goals go_ret
    all_goals exact ⟨ret_bool (by simp [placeB]; omega), rfl⟩

def varsB (z : Nat → Int) : Nat → Bool
  | 0 => true
  | k + 1 => varsB z k && inB (z k) 0 3
theorem varsB_out {z : Nat → Int} {k n : Nat} (h : k < n) (hk : inB (z k) 0 3 = false) : varsB z n = false := by
  induction n with
  | zero => omega
  | succ n ih =>
    rcases (show k < n ∨ k = n by omega) with h' | rfl
    · simp [varsB, ih h']
    · simp [varsB, hk]

set_option maxHeartbeats 1000000 in
theorem areVarsI (b n c : Nat) (z : Nat → Int) (w : World) (hbig : n < 100) (hc : ∀ j, j < n → w.cell? ⟨b, j, none⟩ = some (.int .i64 (z j))) :
    Calls Try.prog 26 #[.slice (some ⟨b, 0, none⟩) n c] w fun e w' => e = .returned (.bool (varsB z n)) ∧ w' = w := by
  go_enter Try.func26, Try.ntmps26
  go_wp2
  go_loop [7] (fun i => ∃ k : Nat, k ≤ n ∧ i = .int .i64 k ∧ Hid (varsB z k = true)) (fun i => n - (intOf i).toNat)
  case atStart => exact ⟨0, Nat.zero_le _, rfl, rfl⟩
  case round =>
    obtain ⟨k, hk, rfl, hv⟩ := hrel
    by_cases hlt : k < n
    · have hcell : w.cell? ⟨b, k, none⟩ = some (.int .i64 (z k)) := hc k hlt
      cases hz : inB (z k) 0 3
      · have hout : Hid (varsB z n = false) := varsB_out hlt hz
        clear hc
        have hp := (place4 (z k)).trans hz
        clear hz
        generalize z k = x at hcell hp
        go_wp2_with (go_at_call 48; refine (placeI _ _ _).mono ?_; rintro e w' ⟨rfl, rfl⟩; rw [hp])
        go_ret
        exact ⟨ret_bool hout.out.symm, rfl⟩
      · have hin : Hid (varsB z (k + 1) = true) := by show varsB z (k + 1) = true; simp [varsB, hv.out, hz]
        clear hc
        have hp := (place4 (z k)).trans hz
        clear hz
        generalize z k = x at hcell hp
        go_wp2_with (go_at_call 48; refine (placeI _ _ _).mono ?_; rintro e w' ⟨rfl, rfl⟩; rw [hp])
        go_round
        case rel => exact ⟨k + 1, by omega, by go_num, hin⟩
        case measure => simp [intOf]; omega
    · have : k = n := by omega
      subst this
      go_wp2
      go_ret
      exact ⟨ret_bool hv.out.symm, rfl⟩

theorem areVars1 (b c : Nat) (x : Int) (w : World) (h0 : w.cell? ⟨b, 0, none⟩ = some (.int .i64 x)) :
    Calls Try.prog 26 #[.slice (some ⟨b, 0, none⟩) 1 c] w fun e w' => e = .returned (.bool (inB x 0 3)) ∧ w' = w := by
  refine (areVarsI b 1 c (fun _ => x) w (by omega) (fun j hj => by
    obtain rfl : j = 0 := by omega
    exact h0)).mono ?_
  rintro e w' ⟨rfl, rfl⟩
  exact ⟨ret_bool (by simp [varsB]), rfl⟩
theorem areVars2 (b c : Nat) (x y : Int) (w : World) (h0 : w.cell? ⟨b, 0, none⟩ = some (.int .i64 x)) (h1 : w.cell? ⟨b, 1, none⟩ = some (.int .i64 y)) :
    Calls Try.prog 26 #[.slice (some ⟨b, 0, none⟩) 2 c] w fun e w' => e = .returned (.bool (inB x 0 3 && inB y 0 3)) ∧ w' = w := by
  refine (areVarsI b 2 c (fun j => if j = 0 then x else y) w (by omega) (fun j hj => by
    rcases (show j = 0 ∨ j = 1 by omega) with rfl | rfl
    · exact h0
    · exact h1)).mono ?_
  rintro e w' ⟨rfl, rfl⟩
  exact ⟨ret_bool (by simp [varsB]), rfl⟩
theorem areVars3 (b c : Nat) (x y u : Int) (w : World) (h0 : w.cell? ⟨b, 0, none⟩ = some (.int .i64 x)) (h1 : w.cell? ⟨b, 1, none⟩ = some (.int .i64 y)) (h2 : w.cell? ⟨b, 2, none⟩ = some (.int .i64 u)) :
    Calls Try.prog 26 #[.slice (some ⟨b, 0, none⟩) 3 c] w fun e w' => e = .returned (.bool (inB x 0 3 && inB y 0 3 && inB u 0 3)) ∧ w' = w := by
  refine (areVarsI b 3 c (fun j => if j = 0 then x else if j = 1 then y else u) w (by omega) (fun j hj => by
    rcases (show j = 0 ∨ j = 1 ∨ j = 2 by omega) with rfl | rfl | rfl
    · exact h0
    · exact h1
    · exact h2)).mono ?_
  rintro e w' ⟨rfl, rfl⟩
  exact ⟨ret_bool (by simp [varsB]), rfl⟩

end Go.Proofs.Ytehcfiihfdgokaa
