/- The program's kinds of steps: what stepOf makes of a step, and what each kind's ins and fits answer. Each makes memory of its own alone. -/
import Derived.Test.YtdpkbbbfnmneiaaPlainIns
import Derived.Test.YtdpkbbbfnmneiaaItvI
import Derived.Test.YtdpkbbbfnmneiaaHeld8
import Derived.WalkKit
import Derived.ProofKit
import Derived.OpenShut
import Derived.Below
namespace Go.Proofs.Ytdpkbbbfnmneiaa
open Go.ChangeShapes Go.WideShapes Go.ChangeAt Go.RowKit

def placeB (n s : Int) : Bool := decide (0 ≤ n) && decide (n < s)
theorem place4 (n : Int) : placeB n 4 = inB n 0 3 := by simp only [placeB, inB]; congr 1; simp; omega

theorem placeI (n s : Int) (w : World) :
    Calls Try.prog 57 #[.int .i64 n, .int .i64 s] w fun e w' => e = .returned (.bool (placeB n s)) ∧ w' = w := by
  by_cases h1 : 0 ≤ n
  · go_enter Try.func57, Try.ntmps57
    go_wp2
    all_goals go_ret
    all_goals exact ⟨ret_bool (by simp [placeB, h1]), rfl⟩
  · go_enter Try.func57, Try.ntmps57
    go_wp2
    all_goals go_ret
    all_goals exact ⟨ret_bool (by simp [placeB]; omega), rfl⟩

theorem relIsI (n : Int) (w : World) :
    Calls Try.prog 158 #[.int .i64 n] w fun e w' => e = .returned (.bool (inB n 1 4)) ∧ w' = w := by
  by_cases h1 : 1 ≤ n
  · go_enter Try.func158, Try.ntmps158
    go_wp2
    all_goals go_ret
    all_goals exact ⟨ret_bool (by simp [inB, h1]), rfl⟩
  · go_enter Try.func158, Try.ntmps158
    go_wp2
    all_goals go_ret
    all_goals exact ⟨ret_bool (by simp [inB]; omega), rfl⟩

def varsB (z : Nat → Int) : Nat → Bool
  | 0 => true
  | k + 1 => varsB z k && inB (z k) 0 3
theorem varsB_out {z : Nat → Int} {k n : Nat} (h : k < n) (hk : inB (z k) 0 3 = false) : varsB z n = false := by
  induction n with
  | zero => omega
  | succ n ih =>
    rcases (show k < n ∨ k = n by omega) with h' | rfl
    · simp [varsB, ih h']
    · simp [varsB, hk]

set_option maxHeartbeats 1000000 in
theorem areVarsI (b n c : Nat) (z : Nat → Int) (w : World) (hbig : n < 100) (hc : ∀ j, j < n → w.cell? ⟨b, j, none⟩ = some (.int .i64 (z j))) :
    Calls Try.prog 149 #[.slice (some ⟨b, 0, none⟩) n c] w fun e w' => e = .returned (.bool (varsB z n)) ∧ w' = w := by
  go_enter Try.func149, Try.ntmps149
  go_wp2
  go_loop [7] (fun i => ∃ k : Nat, k ≤ n ∧ i = .int .i64 k ∧ Hid (varsB z k = true)) (fun i => n - (intOf i).toNat)
  case atStart => exact ⟨0, Nat.zero_le _, rfl, rfl⟩
  case round =>
    obtain ⟨k, hk, rfl, hv⟩ := hrel
    by_cases hlt : k < n
    · have hcell : w.cell? ⟨b, k, none⟩ = some (.int .i64 (z k)) := hc k hlt
      cases hz : inB (z k) 0 3
      · have hout : Hid (varsB z n = false) := varsB_out hlt hz
        clear hc
        have hp := (place4 (z k)).trans hz
        clear hz
        generalize z k = x at hcell hp
        go_wp2_with (go_at_call 57; refine (placeI _ _ _).mono ?_; rintro e w' ⟨rfl, rfl⟩; rw [hp])
        go_ret
        exact ⟨ret_bool hout.out.symm, rfl⟩
      · have hin : Hid (varsB z (k + 1) = true) := by show varsB z (k + 1) = true; simp [varsB, hv.out, hz]
        clear hc
        have hp := (place4 (z k)).trans hz
        clear hz
        generalize z k = x at hcell hp
        go_wp2_with (go_at_call 57; refine (placeI _ _ _).mono ?_; rintro e w' ⟨rfl, rfl⟩; rw [hp])
        go_round
        case rel => exact ⟨k + 1, by omega, by go_num, hin⟩
        case measure => simp [intOf]; omega
    · have : k = n := by omega
      subst this
      go_wp2
      go_ret
      exact ⟨ret_bool hv.out.symm, rfl⟩

theorem areVars1 (b c : Nat) (x : Int) (w : World) (h0 : w.cell? ⟨b, 0, none⟩ = some (.int .i64 x)) :
    Calls Try.prog 149 #[.slice (some ⟨b, 0, none⟩) 1 c] w fun e w' => e = .returned (.bool (inB x 0 3)) ∧ w' = w := by
  refine (areVarsI b 1 c (fun _ => x) w (by omega) (fun j hj => by
    obtain rfl : j = 0 := by omega
    exact h0)).mono ?_
  rintro e w' ⟨rfl, rfl⟩
  exact ⟨ret_bool (by simp [varsB]), rfl⟩
theorem areVars2 (b c : Nat) (x y : Int) (w : World) (h0 : w.cell? ⟨b, 0, none⟩ = some (.int .i64 x)) (h1 : w.cell? ⟨b, 1, none⟩ = some (.int .i64 y)) :
    Calls Try.prog 149 #[.slice (some ⟨b, 0, none⟩) 2 c] w fun e w' => e = .returned (.bool (inB x 0 3 && inB y 0 3)) ∧ w' = w := by
  refine (areVarsI b 2 c (fun j => if j = 0 then x else y) w (by omega) (fun j hj => by
    rcases (show j = 0 ∨ j = 1 by omega) with rfl | rfl
    · exact h0
    · exact h1)).mono ?_
  rintro e w' ⟨rfl, rfl⟩
  exact ⟨ret_bool (by simp [varsB]), rfl⟩
theorem areVars3 (b c : Nat) (x y u : Int) (w : World) (h0 : w.cell? ⟨b, 0, none⟩ = some (.int .i64 x)) (h1 : w.cell? ⟨b, 1, none⟩ = some (.int .i64 y)) (h2 : w.cell? ⟨b, 2, none⟩ = some (.int .i64 u)) :
    Calls Try.prog 149 #[.slice (some ⟨b, 0, none⟩) 3 c] w fun e w' => e = .returned (.bool (inB x 0 3 && inB y 0 3 && inB u 0 3)) ∧ w' = w := by
  refine (areVarsI b 3 c (fun j => if j = 0 then x else if j = 1 then y else u) w (by omega) (fun j hj => by
    rcases (show j = 0 ∨ j = 1 ∨ j = 2 by omega) with rfl | rfl | rfl
    · exact h0
    · exact h1
    · exact h2)).mono ?_
  rintro e w' ⟨rfl, rfl⟩
  exact ⟨ret_bool (by simp [varsB]), rfl⟩

set_option maxHeartbeats 1000000 in
theorem reckonIns (o d a b : Int) (w : World) :
    Calls Try.prog 148 #[.agg #[.int .i64 o, .int .i64 d, .int .i64 a, .int .i64 b]] w fun e w' => e = .returned (.agg #[.int .i64 o, .int .i64 d, .int .i64 a, .int .i64 b, .int .i64 0, .int .i64 0, .int .i64 0, .int .i64 0]) ∧ Below w.heap.size w w' := by
  go_enter Try.func148, Try.ntmps148
  go_wp2
  refine bodyPost_ret (v := .agg #[.int .i64 o, .int .i64 d, .int .i64 a, .int .i64 b, .int .i64 0, .int .i64 0, .int .i64 0, .int .i64 0]) (by simp [results, Try.results148, go_sem]) rfl ⟨rfl, ?_⟩
  repeat (first | exact Below.refl _ _ | refine Below.drew ?_ | refine Below.alloc ?_ (by simp; try omega) _ | refine Below.setCell ?_ (by simp; try omega) _)

set_option maxHeartbeats 1000000 in
theorem reckonFits (o d a b p s : Int) (w : World) :
    Calls Try.prog 147 #[.agg #[.int .i64 o, .int .i64 d, .int .i64 a, .int .i64 b], .int .i64 p, .int .i64 s] w fun e w' => e = .returned (.bool ((inB d 0 3 && inB a 0 3 && inB b 0 3))) ∧ Below w.heap.size w w' := by
  go_enter Try.func147, Try.ntmps147
  go_wp2_with (first | (go_at_call 149; refine (areVars3 _ _ d a b _ (by simp [go_sem]) (by simp [go_sem]) (by simp [go_sem])).mono ?_; rintro e w' ⟨rfl, rfl⟩))
  all_goals go_ret
  all_goals refine ⟨ret_bool (by simp), ?_⟩
  all_goals repeat (first | exact Below.refl _ _ | refine Below.drew ?_ | refine Below.alloc ?_ (by simp; try omega) _ | refine Below.setCell ?_ (by simp; try omega) _ | (refine Below.trans ?_ (Below.mono (by assumption) (by simp; try omega))))

set_option maxHeartbeats 1000000 in
theorem anyIns (d l h : Int) (w : World) :
    Calls Try.prog 160 #[.agg #[.int .i64 d, .int .i64 l, .int .i64 h]] w fun e w' => e = .returned (.agg #[.int .i64 5, .int .i64 d, .int .i64 0, .int .i64 0, .int .i64 0, .int .i64 l, .int .i64 h, .int .i64 0]) ∧ Below w.heap.size w w' := by
  go_enter Try.func160, Try.ntmps160
  go_wp2
  refine bodyPost_ret (v := .agg #[.int .i64 5, .int .i64 d, .int .i64 0, .int .i64 0, .int .i64 0, .int .i64 l, .int .i64 h, .int .i64 0]) (by simp [results, Try.results160, go_sem]) rfl ⟨rfl, ?_⟩
  repeat (first | exact Below.refl _ _ | refine Below.drew ?_ | refine Below.alloc ?_ (by simp; try omega) _ | refine Below.setCell ?_ (by simp; try omega) _)

set_option maxHeartbeats 1000000 in
theorem anyFits (d l h p s : Int) (w : World) :
    Calls Try.prog 159 #[.agg #[.int .i64 d, .int .i64 l, .int .i64 h], .int .i64 p, .int .i64 s] w fun e w' => e = .returned (.bool (inB d 0 3 && itvOk l h)) ∧ Below w.heap.size w w' := by
  cases g0 : inB d 0 3
  · skip
    go_enter Try.func159, Try.ntmps159
    go_wp2_with (first | (go_at_call 149; refine (areVars1 _ _ d _ (by simp [go_sem])).mono ?_; rintro e w' ⟨rfl, rfl⟩; rw [g0]) | (go_at_call 92; refine (itvOkI _ _ _).mono ?_; rintro e w1 ⟨rfl, hb⟩; obtain ⟨hc, hf⟩ := bcell hb))
    all_goals go_ret
    all_goals refine ⟨ret_bool (by simp), ?_⟩
    all_goals repeat (first | exact Below.refl _ _ | refine Below.drew ?_ | refine Below.alloc ?_ (by simp; try omega) _ | refine Below.setCell ?_ (by simp; try omega) _ | (refine Below.trans ?_ (Below.mono (by assumption) (by simp; try omega))))
  go_enter Try.func159, Try.ntmps159
  go_wp2_with (first | (go_at_call 149; refine (areVars1 _ _ d _ (by simp [go_sem])).mono ?_; rintro e w' ⟨rfl, rfl⟩; rw [g0]) | (go_at_call 92; refine (itvOkI _ _ _).mono ?_; rintro e w1 ⟨rfl, hb⟩; obtain ⟨hc, hf⟩ := bcell hb))
  all_goals go_ret
  all_goals refine ⟨ret_bool (by simp), ?_⟩
  all_goals repeat (first | exact Below.refl _ _ | refine Below.drew ?_ | refine Below.alloc ?_ (by simp; try omega) _ | refine Below.setCell ?_ (by simp; try omega) _ | (refine Below.trans ?_ (Below.mono (by assumption) (by simp; try omega))))

set_option maxHeartbeats 1000000 in
theorem loadIns (d a : Int) (w : World) :
    Calls Try.prog 151 #[.agg #[.int .i64 d, .int .i64 a]] w fun e w' => e = .returned (.agg #[.int .i64 6, .int .i64 d, .int .i64 a, .int .i64 0, .int .i64 0, .int .i64 0, .int .i64 0, .int .i64 0]) ∧ Below w.heap.size w w' := by
  go_enter Try.func151, Try.ntmps151
  go_wp2
  refine bodyPost_ret (v := .agg #[.int .i64 6, .int .i64 d, .int .i64 a, .int .i64 0, .int .i64 0, .int .i64 0, .int .i64 0, .int .i64 0]) (by simp [results, Try.results151, go_sem]) rfl ⟨rfl, ?_⟩
  repeat (first | exact Below.refl _ _ | refine Below.drew ?_ | refine Below.alloc ?_ (by simp; try omega) _ | refine Below.setCell ?_ (by simp; try omega) _)

set_option maxHeartbeats 1000000 in
theorem loadFits (d a p s : Int) (w : World) :
    Calls Try.prog 150 #[.agg #[.int .i64 d, .int .i64 a], .int .i64 p, .int .i64 s] w fun e w' => e = .returned (.bool ((inB d 0 3 && inB a 0 3))) ∧ Below w.heap.size w w' := by
  go_enter Try.func150, Try.ntmps150
  go_wp2_with (first | (go_at_call 149; refine (areVars2 _ _ d a _ (by simp [go_sem]) (by simp [go_sem])).mono ?_; rintro e w' ⟨rfl, rfl⟩))
  all_goals go_ret
  all_goals refine ⟨ret_bool (by simp), ?_⟩
  all_goals repeat (first | exact Below.refl _ _ | refine Below.drew ?_ | refine Below.alloc ?_ (by simp; try omega) _ | refine Below.setCell ?_ (by simp; try omega) _ | (refine Below.trans ?_ (Below.mono (by assumption) (by simp; try omega))))

set_option maxHeartbeats 1000000 in
theorem storeIns (a b : Int) (w : World) :
    Calls Try.prog 153 #[.agg #[.int .i64 a, .int .i64 b]] w fun e w' => e = .returned (.agg #[.int .i64 7, .int .i64 0, .int .i64 a, .int .i64 b, .int .i64 0, .int .i64 0, .int .i64 0, .int .i64 0]) ∧ Below w.heap.size w w' := by
  go_enter Try.func153, Try.ntmps153
  go_wp2
  refine bodyPost_ret (v := .agg #[.int .i64 7, .int .i64 0, .int .i64 a, .int .i64 b, .int .i64 0, .int .i64 0, .int .i64 0, .int .i64 0]) (by simp [results, Try.results153, go_sem]) rfl ⟨rfl, ?_⟩
  repeat (first | exact Below.refl _ _ | refine Below.drew ?_ | refine Below.alloc ?_ (by simp; try omega) _ | refine Below.setCell ?_ (by simp; try omega) _)

set_option maxHeartbeats 1000000 in
theorem storeFits (a b p s : Int) (w : World) :
    Calls Try.prog 152 #[.agg #[.int .i64 a, .int .i64 b], .int .i64 p, .int .i64 s] w fun e w' => e = .returned (.bool ((inB a 0 3 && inB b 0 3))) ∧ Below w.heap.size w w' := by
  go_enter Try.func152, Try.ntmps152
  go_wp2_with (first | (go_at_call 149; refine (areVars2 _ _ a b _ (by simp [go_sem]) (by simp [go_sem])).mono ?_; rintro e w' ⟨rfl, rfl⟩))
  all_goals go_ret
  all_goals refine ⟨ret_bool (by simp), ?_⟩
  all_goals repeat (first | exact Below.refl _ _ | refine Below.drew ?_ | refine Below.alloc ?_ (by simp; try omega) _ | refine Below.setCell ?_ (by simp; try omega) _ | (refine Below.trans ?_ (Below.mono (by assumption) (by simp; try omega))))

set_option maxHeartbeats 1000000 in
theorem ifIns (a r b t : Int) (w : World) :
    Calls Try.prog 162 #[.agg #[.int .i64 a, .int .i64 r, .int .i64 b, .int .i64 t]] w fun e w' => e = .returned (.agg #[.int .i64 8, .int .i64 0, .int .i64 a, .int .i64 b, .int .i64 r, .int .i64 0, .int .i64 0, .int .i64 t]) ∧ Below w.heap.size w w' := by
  go_enter Try.func162, Try.ntmps162
  go_wp2
  refine bodyPost_ret (v := .agg #[.int .i64 8, .int .i64 0, .int .i64 a, .int .i64 b, .int .i64 r, .int .i64 0, .int .i64 0, .int .i64 t]) (by simp [results, Try.results162, go_sem]) rfl ⟨rfl, ?_⟩
  repeat (first | exact Below.refl _ _ | refine Below.drew ?_ | refine Below.alloc ?_ (by simp; try omega) _ | refine Below.setCell ?_ (by simp; try omega) _)

set_option maxHeartbeats 1000000 in
theorem ifFits (a r b t p s : Int) (w : World) :
    Calls Try.prog 161 #[.agg #[.int .i64 a, .int .i64 r, .int .i64 b, .int .i64 t], .int .i64 p, .int .i64 s] w fun e w' => e = .returned (.bool (inB r 1 4 && (inB a 0 3 && inB b 0 3) && placeB t s)) ∧ Below w.heap.size w w' := by
  cases g0 : inB r 1 4
  · skip
    go_enter Try.func161, Try.ntmps161
    go_wp2_with (first | (go_at_call 158; refine (relIsI _ _).mono ?_; rintro e w' ⟨rfl, rfl⟩; rw [g0]) | (go_at_call 149; refine (areVars2 _ _ a b _ (by simp [go_sem]) (by simp [go_sem])).mono ?_; rintro e w' ⟨rfl, rfl⟩; rw [g1]) | (go_at_call 57; refine (placeI _ _ _).mono ?_; rintro e w' ⟨rfl, rfl⟩))
    all_goals go_ret
    all_goals refine ⟨ret_bool (by simp), ?_⟩
    all_goals repeat (first | exact Below.refl _ _ | refine Below.drew ?_ | refine Below.alloc ?_ (by simp; try omega) _ | refine Below.setCell ?_ (by simp; try omega) _ | (refine Below.trans ?_ (Below.mono (by assumption) (by simp; try omega))))
  cases g1 : (inB a 0 3 && inB b 0 3)
  · skip
    go_enter Try.func161, Try.ntmps161
    go_wp2_with (first | (go_at_call 158; refine (relIsI _ _).mono ?_; rintro e w' ⟨rfl, rfl⟩; rw [g0]) | (go_at_call 149; refine (areVars2 _ _ a b _ (by simp [go_sem]) (by simp [go_sem])).mono ?_; rintro e w' ⟨rfl, rfl⟩; rw [g1]) | (go_at_call 57; refine (placeI _ _ _).mono ?_; rintro e w' ⟨rfl, rfl⟩))
    all_goals go_ret
    all_goals refine ⟨ret_bool (by simp), ?_⟩
    all_goals repeat (first | exact Below.refl _ _ | refine Below.drew ?_ | refine Below.alloc ?_ (by simp; try omega) _ | refine Below.setCell ?_ (by simp; try omega) _ | (refine Below.trans ?_ (Below.mono (by assumption) (by simp; try omega))))
  go_enter Try.func161, Try.ntmps161
  go_wp2_with (first | (go_at_call 158; refine (relIsI _ _).mono ?_; rintro e w' ⟨rfl, rfl⟩; rw [g0]) | (go_at_call 149; refine (areVars2 _ _ a b _ (by simp [go_sem]) (by simp [go_sem])).mono ?_; rintro e w' ⟨rfl, rfl⟩; rw [g1]) | (go_at_call 57; refine (placeI _ _ _).mono ?_; rintro e w' ⟨rfl, rfl⟩))
  all_goals go_ret
  all_goals refine ⟨ret_bool (by simp), ?_⟩
  all_goals repeat (first | exact Below.refl _ _ | refine Below.drew ?_ | refine Below.alloc ?_ (by simp; try omega) _ | refine Below.setCell ?_ (by simp; try omega) _ | (refine Below.trans ?_ (Below.mono (by assumption) (by simp; try omega))))

set_option maxHeartbeats 1000000 in
theorem jumpIns (t : Int) (w : World) :
    Calls Try.prog 164 #[.agg #[.int .i64 t]] w fun e w' => e = .returned (.agg #[.int .i64 9, .int .i64 0, .int .i64 0, .int .i64 0, .int .i64 0, .int .i64 0, .int .i64 0, .int .i64 t]) ∧ Below w.heap.size w w' := by
  go_enter Try.func164, Try.ntmps164
  go_wp2
  refine bodyPost_ret (v := .agg #[.int .i64 9, .int .i64 0, .int .i64 0, .int .i64 0, .int .i64 0, .int .i64 0, .int .i64 0, .int .i64 t]) (by simp [results, Try.results164, go_sem]) rfl ⟨rfl, ?_⟩
  repeat (first | exact Below.refl _ _ | refine Below.drew ?_ | refine Below.alloc ?_ (by simp; try omega) _ | refine Below.setCell ?_ (by simp; try omega) _)

set_option maxHeartbeats 1000000 in
theorem jumpFits (t p s : Int) (w : World) :
    Calls Try.prog 163 #[.agg #[.int .i64 t], .int .i64 p, .int .i64 s] w fun e w' => e = .returned (.bool (placeB t s)) ∧ Below w.heap.size w w' := by
  go_enter Try.func163, Try.ntmps163
  go_wp2_with (first | (go_at_call 57; refine (placeI _ _ _).mono ?_; rintro e w' ⟨rfl, rfl⟩))
  all_goals go_ret
  all_goals refine ⟨ret_bool (by simp), ?_⟩
  all_goals repeat (first | exact Below.refl _ _ | refine Below.drew ?_ | refine Below.alloc ?_ (by simp; try omega) _ | refine Below.setCell ?_ (by simp; try omega) _ | (refine Below.trans ?_ (Below.mono (by assumption) (by simp; try omega))))

set_option maxHeartbeats 1000000 in
theorem callIns (d t a : Int) (w : World) :
    Calls Try.prog 155 #[.agg #[.int .i64 d, .int .i64 t, .int .i64 a]] w fun e w' => e = .returned (.agg #[.int .i64 10, .int .i64 d, .int .i64 a, .int .i64 0, .int .i64 0, .int .i64 0, .int .i64 0, .int .i64 t]) ∧ Below w.heap.size w w' := by
  go_enter Try.func155, Try.ntmps155
  go_wp2
  refine bodyPost_ret (v := .agg #[.int .i64 10, .int .i64 d, .int .i64 a, .int .i64 0, .int .i64 0, .int .i64 0, .int .i64 0, .int .i64 t]) (by simp [results, Try.results155, go_sem]) rfl ⟨rfl, ?_⟩
  repeat (first | exact Below.refl _ _ | refine Below.drew ?_ | refine Below.alloc ?_ (by simp; try omega) _ | refine Below.setCell ?_ (by simp; try omega) _)

set_option maxHeartbeats 1000000 in
theorem callFits (d t a p s : Int) (w : World) :
    Calls Try.prog 154 #[.agg #[.int .i64 d, .int .i64 t, .int .i64 a], .int .i64 p, .int .i64 s] w fun e w' => e = .returned (.bool ((inB d 0 3 && inB a 0 3) && placeB t p)) ∧ Below w.heap.size w w' := by
  cases g0 : (inB d 0 3 && inB a 0 3)
  · skip
    go_enter Try.func154, Try.ntmps154
    go_wp2_with (first | (go_at_call 149; refine (areVars2 _ _ d a _ (by simp [go_sem]) (by simp [go_sem])).mono ?_; rintro e w' ⟨rfl, rfl⟩; rw [g0]) | (go_at_call 57; refine (placeI _ _ _).mono ?_; rintro e w' ⟨rfl, rfl⟩))
    all_goals go_ret
    all_goals refine ⟨ret_bool (by simp), ?_⟩
    all_goals repeat (first | exact Below.refl _ _ | refine Below.drew ?_ | refine Below.alloc ?_ (by simp; try omega) _ | refine Below.setCell ?_ (by simp; try omega) _ | (refine Below.trans ?_ (Below.mono (by assumption) (by simp; try omega))))
  go_enter Try.func154, Try.ntmps154
  go_wp2_with (first | (go_at_call 149; refine (areVars2 _ _ d a _ (by simp [go_sem]) (by simp [go_sem])).mono ?_; rintro e w' ⟨rfl, rfl⟩; rw [g0]) | (go_at_call 57; refine (placeI _ _ _).mono ?_; rintro e w' ⟨rfl, rfl⟩))
  all_goals go_ret
  all_goals refine ⟨ret_bool (by simp), ?_⟩
  all_goals repeat (first | exact Below.refl _ _ | refine Below.drew ?_ | refine Below.alloc ?_ (by simp; try omega) _ | refine Below.setCell ?_ (by simp; try omega) _ | (refine Below.trans ?_ (Below.mono (by assumption) (by simp; try omega))))

set_option maxHeartbeats 1000000 in
theorem assertIns (a r b : Int) (w : World) :
    Calls Try.prog 157 #[.agg #[.int .i64 a, .int .i64 r, .int .i64 b]] w fun e w' => e = .returned (.agg #[.int .i64 11, .int .i64 0, .int .i64 a, .int .i64 b, .int .i64 r, .int .i64 0, .int .i64 0, .int .i64 0]) ∧ Below w.heap.size w w' := by
  go_enter Try.func157, Try.ntmps157
  go_wp2
  refine bodyPost_ret (v := .agg #[.int .i64 11, .int .i64 0, .int .i64 a, .int .i64 b, .int .i64 r, .int .i64 0, .int .i64 0, .int .i64 0]) (by simp [results, Try.results157, go_sem]) rfl ⟨rfl, ?_⟩
  repeat (first | exact Below.refl _ _ | refine Below.drew ?_ | refine Below.alloc ?_ (by simp; try omega) _ | refine Below.setCell ?_ (by simp; try omega) _)

set_option maxHeartbeats 1000000 in
theorem assertFits (a r b p s : Int) (w : World) :
    Calls Try.prog 156 #[.agg #[.int .i64 a, .int .i64 r, .int .i64 b], .int .i64 p, .int .i64 s] w fun e w' => e = .returned (.bool (inB r 1 4 && (inB a 0 3 && inB b 0 3))) ∧ Below w.heap.size w w' := by
  cases g0 : inB r 1 4
  · skip
    go_enter Try.func156, Try.ntmps156
    go_wp2_with (first | (go_at_call 158; refine (relIsI _ _).mono ?_; rintro e w' ⟨rfl, rfl⟩; rw [g0]) | (go_at_call 149; refine (areVars2 _ _ a b _ (by simp [go_sem]) (by simp [go_sem])).mono ?_; rintro e w' ⟨rfl, rfl⟩))
    all_goals go_ret
    all_goals refine ⟨ret_bool (by simp), ?_⟩
    all_goals repeat (first | exact Below.refl _ _ | refine Below.drew ?_ | refine Below.alloc ?_ (by simp; try omega) _ | refine Below.setCell ?_ (by simp; try omega) _ | (refine Below.trans ?_ (Below.mono (by assumption) (by simp; try omega))))
  go_enter Try.func156, Try.ntmps156
  go_wp2_with (first | (go_at_call 158; refine (relIsI _ _).mono ?_; rintro e w' ⟨rfl, rfl⟩; rw [g0]) | (go_at_call 149; refine (areVars2 _ _ a b _ (by simp [go_sem]) (by simp [go_sem])).mono ?_; rintro e w' ⟨rfl, rfl⟩))
  all_goals go_ret
  all_goals refine ⟨ret_bool (by simp), ?_⟩
  all_goals repeat (first | exact Below.refl _ _ | refine Below.drew ?_ | refine Below.alloc ?_ (by simp; try omega) _ | refine Below.setCell ?_ (by simp; try omega) _ | (refine Below.trans ?_ (Below.mono (by assumption) (by simp; try omega))))

set_option maxHeartbeats 1000000 in
theorem retIns (a : Int) (w : World) :
    Calls Try.prog 166 #[.agg #[.int .i64 a]] w fun e w' => e = .returned (.agg #[.int .i64 12, .int .i64 0, .int .i64 a, .int .i64 0, .int .i64 0, .int .i64 0, .int .i64 0, .int .i64 0]) ∧ Below w.heap.size w w' := by
  go_enter Try.func166, Try.ntmps166
  go_wp2
  refine bodyPost_ret (v := .agg #[.int .i64 12, .int .i64 0, .int .i64 a, .int .i64 0, .int .i64 0, .int .i64 0, .int .i64 0, .int .i64 0]) (by simp [results, Try.results166, go_sem]) rfl ⟨rfl, ?_⟩
  repeat (first | exact Below.refl _ _ | refine Below.drew ?_ | refine Below.alloc ?_ (by simp; try omega) _ | refine Below.setCell ?_ (by simp; try omega) _)

set_option maxHeartbeats 1000000 in
theorem retFits (a p s : Int) (w : World) :
    Calls Try.prog 165 #[.agg #[.int .i64 a], .int .i64 p, .int .i64 s] w fun e w' => e = .returned (.bool (inB a 0 3)) ∧ Below w.heap.size w w' := by
  go_enter Try.func165, Try.ntmps165
  go_wp2_with (first | (go_at_call 149; refine (areVars1 _ _ a _ (by simp [go_sem])).mono ?_; rintro e w' ⟨rfl, rfl⟩))
  all_goals go_ret
  all_goals refine ⟨ret_bool (by simp), ?_⟩
  all_goals repeat (first | exact Below.refl _ _ | refine Below.drew ?_ | refine Below.alloc ?_ (by simp; try omega) _ | refine Below.setCell ?_ (by simp; try omega) _ | (refine Below.trans ?_ (Below.mono (by assumption) (by simp; try omega))))
end Go.Proofs.Ytdpkbbbfnmneiaa
