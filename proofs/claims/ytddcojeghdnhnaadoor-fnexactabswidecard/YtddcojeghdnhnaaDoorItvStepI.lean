/- Where ends that grow come to rest: the program's (I). Condition: the table of steps holds what its initialiser lays. -/
import Derived.Test.YtddcojeghdnhnaaDoorItvI
import Derived.WalkKit
import Derived.ProofKit
import Derived.OpenShut
import Derived.Below
import Derived.Lib.LaidTab
namespace Go.Proofs.YtddcojeghdnhnaaDoor
open Go.ChangeShapes Go.WideShapes Go.ChangeAt Go.RowKit

def stp : Nat → Int
  | 0 => -32768
  | 1 => -1000
  | 2 => -100
  | 3 => -10
  | 4 => -1
  | 5 => 0
  | 6 => 1
  | 7 => 10
  | 8 => 100
  | 9 => 1000
  | _ => 32767
def dnA (a n : Int) : Nat → Int
  | 0 => a
  | k + 1 => if stp k ≤ n then stp k else dnA a n k
def upA (a n : Int) : Nat → Int
  | 0 => a
  | j + 1 => if n ≤ stp (10 - j) then stp (10 - j) else upA a n j
def stepTab : List Int := [-32768, -1000, -100, -10, -1, 0, 1, 10, 100, 1000, 32767]
theorem dnA_any (a n : Int) (h : -32768 ≤ n) (k : Nat) : dnA a n (k + 1) = dnA (-32768) n (k + 1) := by
  induction k with
  | zero => simp [dnA, stp, h]
  | succ k ih => rw [dnA, ih]; rfl
theorem upA_any (a n : Int) (h : n ≤ 32767) (k : Nat) : upA a n (k + 1) = upA 32767 n (k + 1) := by
  induction k with
  | zero => simp [upA, stp, h]
  | succ k ih => rw [upA, ih]; rfl
def wideLo (a b c d : Int) : Int := if two a b c d then (if c < a then dnA (-32768) c 11 else a) else 0
def wideHi (a b c d : Int) : Int := if two a b c d then (if b < d then upA 32767 d 11 else b) else 0

theorem gSteps : Tryd.prog.globalNamed "loop.example/outwork/impl.wideSteps" = some 0 := by kernel_rfl
def StepsIn (w : World) : Prop := Lib.TabIs Tryd.prog w "loop.example/outwork/impl.wideSteps" .i64 stepTab
theorem StepsIn.at {w : World} (h : StepsIn w) : w.cell? ⟨0, 0, none⟩ = some (.int .i64 (-32768)) ∧ w.cell? ⟨0, 1, none⟩ = some (.int .i64 (-1000)) ∧ w.cell? ⟨0, 2, none⟩ = some (.int .i64 (-100)) ∧ w.cell? ⟨0, 3, none⟩ = some (.int .i64 (-10)) ∧ w.cell? ⟨0, 4, none⟩ = some (.int .i64 (-1)) ∧ w.cell? ⟨0, 5, none⟩ = some (.int .i64 0) ∧ w.cell? ⟨0, 6, none⟩ = some (.int .i64 1) ∧ w.cell? ⟨0, 7, none⟩ = some (.int .i64 10) ∧ w.cell? ⟨0, 8, none⟩ = some (.int .i64 100) ∧ w.cell? ⟨0, 9, none⟩ = some (.int .i64 1000) ∧ w.cell? ⟨0, 10, none⟩ = some (.int .i64 32767) :=
  ⟨Lib.TabIs.cell h gSteps 0 (by decide), Lib.TabIs.cell h gSteps 1 (by decide), Lib.TabIs.cell h gSteps 2 (by decide), Lib.TabIs.cell h gSteps 3 (by decide), Lib.TabIs.cell h gSteps 4 (by decide), Lib.TabIs.cell h gSteps 5 (by decide), Lib.TabIs.cell h gSteps 6 (by decide), Lib.TabIs.cell h gSteps 7 (by decide), Lib.TabIs.cell h gSteps 8 (by decide), Lib.TabIs.cell h gSteps 9 (by decide), Lib.TabIs.cell h gSteps 10 (by decide)⟩

theorem idx_0 (w : World) : (Instr.index 58 (.agg #[.int .i64 (-32768), .int .i64 (-1000), .int .i64 (-100), .int .i64 (-10), .int .i64 (-1), .int .i64 0, .int .i64 1, .int .i64 10, .int .i64 100, .int .i64 1000, .int .i64 32767]) (.int .i64 0)).run Tryd.prog w = .ok (.int .i64 (-32768)) w := by kernel_rfl
theorem idx_1 (w : World) : (Instr.index 58 (.agg #[.int .i64 (-32768), .int .i64 (-1000), .int .i64 (-100), .int .i64 (-10), .int .i64 (-1), .int .i64 0, .int .i64 1, .int .i64 10, .int .i64 100, .int .i64 1000, .int .i64 32767]) (.int .i64 1)).run Tryd.prog w = .ok (.int .i64 (-1000)) w := by kernel_rfl
theorem idx_2 (w : World) : (Instr.index 58 (.agg #[.int .i64 (-32768), .int .i64 (-1000), .int .i64 (-100), .int .i64 (-10), .int .i64 (-1), .int .i64 0, .int .i64 1, .int .i64 10, .int .i64 100, .int .i64 1000, .int .i64 32767]) (.int .i64 2)).run Tryd.prog w = .ok (.int .i64 (-100)) w := by kernel_rfl
theorem idx_3 (w : World) : (Instr.index 58 (.agg #[.int .i64 (-32768), .int .i64 (-1000), .int .i64 (-100), .int .i64 (-10), .int .i64 (-1), .int .i64 0, .int .i64 1, .int .i64 10, .int .i64 100, .int .i64 1000, .int .i64 32767]) (.int .i64 3)).run Tryd.prog w = .ok (.int .i64 (-10)) w := by kernel_rfl
theorem idx_4 (w : World) : (Instr.index 58 (.agg #[.int .i64 (-32768), .int .i64 (-1000), .int .i64 (-100), .int .i64 (-10), .int .i64 (-1), .int .i64 0, .int .i64 1, .int .i64 10, .int .i64 100, .int .i64 1000, .int .i64 32767]) (.int .i64 4)).run Tryd.prog w = .ok (.int .i64 (-1)) w := by kernel_rfl
theorem idx_5 (w : World) : (Instr.index 58 (.agg #[.int .i64 (-32768), .int .i64 (-1000), .int .i64 (-100), .int .i64 (-10), .int .i64 (-1), .int .i64 0, .int .i64 1, .int .i64 10, .int .i64 100, .int .i64 1000, .int .i64 32767]) (.int .i64 5)).run Tryd.prog w = .ok (.int .i64 0) w := by kernel_rfl
theorem idx_6 (w : World) : (Instr.index 58 (.agg #[.int .i64 (-32768), .int .i64 (-1000), .int .i64 (-100), .int .i64 (-10), .int .i64 (-1), .int .i64 0, .int .i64 1, .int .i64 10, .int .i64 100, .int .i64 1000, .int .i64 32767]) (.int .i64 6)).run Tryd.prog w = .ok (.int .i64 1) w := by kernel_rfl
theorem idx_7 (w : World) : (Instr.index 58 (.agg #[.int .i64 (-32768), .int .i64 (-1000), .int .i64 (-100), .int .i64 (-10), .int .i64 (-1), .int .i64 0, .int .i64 1, .int .i64 10, .int .i64 100, .int .i64 1000, .int .i64 32767]) (.int .i64 7)).run Tryd.prog w = .ok (.int .i64 10) w := by kernel_rfl
theorem idx_8 (w : World) : (Instr.index 58 (.agg #[.int .i64 (-32768), .int .i64 (-1000), .int .i64 (-100), .int .i64 (-10), .int .i64 (-1), .int .i64 0, .int .i64 1, .int .i64 10, .int .i64 100, .int .i64 1000, .int .i64 32767]) (.int .i64 8)).run Tryd.prog w = .ok (.int .i64 100) w := by kernel_rfl
theorem idx_9 (w : World) : (Instr.index 58 (.agg #[.int .i64 (-32768), .int .i64 (-1000), .int .i64 (-100), .int .i64 (-10), .int .i64 (-1), .int .i64 0, .int .i64 1, .int .i64 10, .int .i64 100, .int .i64 1000, .int .i64 32767]) (.int .i64 9)).run Tryd.prog w = .ok (.int .i64 1000) w := by kernel_rfl
theorem idx_10 (w : World) : (Instr.index 58 (.agg #[.int .i64 (-32768), .int .i64 (-1000), .int .i64 (-100), .int .i64 (-10), .int .i64 (-1), .int .i64 0, .int .i64 1, .int .i64 10, .int .i64 100, .int .i64 1000, .int .i64 32767]) (.int .i64 10)).run Tryd.prog w = .ok (.int .i64 32767) w := by kernel_rfl

set_option maxRecDepth 10000 in
set_option maxHeartbeats 4000000 in
theorem belowI (n : Int) (w : World) (h : StepsIn w) :
    Calls Tryd.prog 30 #[.int .i64 n] w fun e w' => e = .returned (.int .i64 (dnA (-32768) n 11)) ∧ w' = w := by
  obtain ⟨t0, t1, t2, t3, t4, t5, t6, t7, t8, t9, t10⟩ := h.at
  go_enter Tryd.func30, Tryd.ntmps30
  go_wp2
  clear t0 t1 t2 t3 t4 t5 t6 t7 t8 t9 t10
  go_loop [3, 7] (fun m i => ∃ k : Nat, k ≤ 11 ∧ i = .int .i64 k ∧ m = .int .i64 (dnA (-32768) n k)) (fun _ i => 11 - (intOf i).toNat)
  case atStart => exact ⟨0, Nat.zero_le _, rfl, rfl⟩
  case round =>
    obtain ⟨k, hk, rfl, rfl⟩ := hrel
    rcases (show k = 0 ∨ k = 1 ∨ k = 2 ∨ k = 3 ∨ k = 4 ∨ k = 5 ∨ k = 6 ∨ k = 7 ∨ k = 8 ∨ k = 9 ∨ k = 10 ∨ k = 11 by omega) with rfl | rfl | rfl | rfl | rfl | rfl | rfl | rfl | rfl | rfl | rfl | rfl
    · have q := idx_0
      have E : Hid (∀ m, m = dnA (-32768) n 0 → dnA (-32768) n (0 + 1) = if (-32768) ≤ n then (-32768) else m) := fun m hm => by subst hm; rfl
      obtain ⟨m, hm⟩ : ∃ m, m = dnA (-32768) n 0 := ⟨_, rfl⟩
      have E1 : Hid (dnA (-32768) n (0 + 1) = if (-32768) ≤ n then (-32768) else m) := E m hm
      rw [← hm]
      clear hm E
      go_wp2
      all_goals go_round
      all_goals
        have E2 : dnA (-32768) n (0 + 1) = if (-32768) ≤ n then (-32768) else m := E1
        first | exact ⟨0 + 1, by omega, by go_num, by rw [E2]; (try rw [if_pos (by assumption)]); (try rw [if_neg (by assumption)]); (try rw [if_neg (by omega)])⟩ | (simp [intOf])
    · have q := idx_1
      have E : Hid (∀ m, m = dnA (-32768) n 1 → dnA (-32768) n (1 + 1) = if (-1000) ≤ n then (-1000) else m) := fun m hm => by subst hm; rfl
      obtain ⟨m, hm⟩ : ∃ m, m = dnA (-32768) n 1 := ⟨_, rfl⟩
      have E1 : Hid (dnA (-32768) n (1 + 1) = if (-1000) ≤ n then (-1000) else m) := E m hm
      rw [← hm]
      clear hm E
      go_wp2
      all_goals go_round
      all_goals
        have E2 : dnA (-32768) n (1 + 1) = if (-1000) ≤ n then (-1000) else m := E1
        first | exact ⟨1 + 1, by omega, by go_num, by rw [E2]; (try rw [if_pos (by assumption)]); (try rw [if_neg (by assumption)]); (try rw [if_neg (by omega)])⟩ | (simp [intOf])
    · have q := idx_2
      have E : Hid (∀ m, m = dnA (-32768) n 2 → dnA (-32768) n (2 + 1) = if (-100) ≤ n then (-100) else m) := fun m hm => by subst hm; rfl
      obtain ⟨m, hm⟩ : ∃ m, m = dnA (-32768) n 2 := ⟨_, rfl⟩
      have E1 : Hid (dnA (-32768) n (2 + 1) = if (-100) ≤ n then (-100) else m) := E m hm
      rw [← hm]
      clear hm E
      go_wp2
      all_goals go_round
      all_goals
        have E2 : dnA (-32768) n (2 + 1) = if (-100) ≤ n then (-100) else m := E1
        first | exact ⟨2 + 1, by omega, by go_num, by rw [E2]; (try rw [if_pos (by assumption)]); (try rw [if_neg (by assumption)]); (try rw [if_neg (by omega)])⟩ | (simp [intOf])
    · have q := idx_3
      have E : Hid (∀ m, m = dnA (-32768) n 3 → dnA (-32768) n (3 + 1) = if (-10) ≤ n then (-10) else m) := fun m hm => by subst hm; rfl
      obtain ⟨m, hm⟩ : ∃ m, m = dnA (-32768) n 3 := ⟨_, rfl⟩
      have E1 : Hid (dnA (-32768) n (3 + 1) = if (-10) ≤ n then (-10) else m) := E m hm
      rw [← hm]
      clear hm E
      go_wp2
      all_goals go_round
      all_goals
        have E2 : dnA (-32768) n (3 + 1) = if (-10) ≤ n then (-10) else m := E1
        first | exact ⟨3 + 1, by omega, by go_num, by rw [E2]; (try rw [if_pos (by assumption)]); (try rw [if_neg (by assumption)]); (try rw [if_neg (by omega)])⟩ | (simp [intOf])
    · have q := idx_4
      have E : Hid (∀ m, m = dnA (-32768) n 4 → dnA (-32768) n (4 + 1) = if (-1) ≤ n then (-1) else m) := fun m hm => by subst hm; rfl
      obtain ⟨m, hm⟩ : ∃ m, m = dnA (-32768) n 4 := ⟨_, rfl⟩
      have E1 : Hid (dnA (-32768) n (4 + 1) = if (-1) ≤ n then (-1) else m) := E m hm
      rw [← hm]
      clear hm E
      go_wp2
      all_goals go_round
      all_goals
        have E2 : dnA (-32768) n (4 + 1) = if (-1) ≤ n then (-1) else m := E1
        first | exact ⟨4 + 1, by omega, by go_num, by rw [E2]; (try rw [if_pos (by assumption)]); (try rw [if_neg (by assumption)]); (try rw [if_neg (by omega)])⟩ | (simp [intOf])
    · have q := idx_5
      have E : Hid (∀ m, m = dnA (-32768) n 5 → dnA (-32768) n (5 + 1) = if 0 ≤ n then 0 else m) := fun m hm => by subst hm; rfl
      obtain ⟨m, hm⟩ : ∃ m, m = dnA (-32768) n 5 := ⟨_, rfl⟩
      have E1 : Hid (dnA (-32768) n (5 + 1) = if 0 ≤ n then 0 else m) := E m hm
      rw [← hm]
      clear hm E
      go_wp2
      all_goals go_round
      all_goals
        have E2 : dnA (-32768) n (5 + 1) = if 0 ≤ n then 0 else m := E1
        first | exact ⟨5 + 1, by omega, by go_num, by rw [E2]; (try rw [if_pos (by assumption)]); (try rw [if_neg (by assumption)]); (try rw [if_neg (by omega)])⟩ | (simp [intOf])
    · have q := idx_6
      have E : Hid (∀ m, m = dnA (-32768) n 6 → dnA (-32768) n (6 + 1) = if 1 ≤ n then 1 else m) := fun m hm => by subst hm; rfl
      obtain ⟨m, hm⟩ : ∃ m, m = dnA (-32768) n 6 := ⟨_, rfl⟩
      have E1 : Hid (dnA (-32768) n (6 + 1) = if 1 ≤ n then 1 else m) := E m hm
      rw [← hm]
      clear hm E
      go_wp2
      all_goals go_round
      all_goals
        have E2 : dnA (-32768) n (6 + 1) = if 1 ≤ n then 1 else m := E1
        first | exact ⟨6 + 1, by omega, by go_num, by rw [E2]; (try rw [if_pos (by assumption)]); (try rw [if_neg (by assumption)]); (try rw [if_neg (by omega)])⟩ | (simp [intOf])
    · have q := idx_7
      have E : Hid (∀ m, m = dnA (-32768) n 7 → dnA (-32768) n (7 + 1) = if 10 ≤ n then 10 else m) := fun m hm => by subst hm; rfl
      obtain ⟨m, hm⟩ : ∃ m, m = dnA (-32768) n 7 := ⟨_, rfl⟩
      have E1 : Hid (dnA (-32768) n (7 + 1) = if 10 ≤ n then 10 else m) := E m hm
      rw [← hm]
      clear hm E
      go_wp2
      all_goals go_round
      all_goals
        have E2 : dnA (-32768) n (7 + 1) = if 10 ≤ n then 10 else m := E1
        first | exact ⟨7 + 1, by omega, by go_num, by rw [E2]; (try rw [if_pos (by assumption)]); (try rw [if_neg (by assumption)]); (try rw [if_neg (by omega)])⟩ | (simp [intOf])
    · have q := idx_8
      have E : Hid (∀ m, m = dnA (-32768) n 8 → dnA (-32768) n (8 + 1) = if 100 ≤ n then 100 else m) := fun m hm => by subst hm; rfl
      obtain ⟨m, hm⟩ : ∃ m, m = dnA (-32768) n 8 := ⟨_, rfl⟩
      have E1 : Hid (dnA (-32768) n (8 + 1) = if 100 ≤ n then 100 else m) := E m hm
      rw [← hm]
      clear hm E
      go_wp2
      all_goals go_round
      all_goals
        have E2 : dnA (-32768) n (8 + 1) = if 100 ≤ n then 100 else m := E1
        first | exact ⟨8 + 1, by omega, by go_num, by rw [E2]; (try rw [if_pos (by assumption)]); (try rw [if_neg (by assumption)]); (try rw [if_neg (by omega)])⟩ | (simp [intOf])
    · have q := idx_9
      have E : Hid (∀ m, m = dnA (-32768) n 9 → dnA (-32768) n (9 + 1) = if 1000 ≤ n then 1000 else m) := fun m hm => by subst hm; rfl
      obtain ⟨m, hm⟩ : ∃ m, m = dnA (-32768) n 9 := ⟨_, rfl⟩
      have E1 : Hid (dnA (-32768) n (9 + 1) = if 1000 ≤ n then 1000 else m) := E m hm
      rw [← hm]
      clear hm E
      go_wp2
      all_goals go_round
      all_goals
        have E2 : dnA (-32768) n (9 + 1) = if 1000 ≤ n then 1000 else m := E1
        first | exact ⟨9 + 1, by omega, by go_num, by rw [E2]; (try rw [if_pos (by assumption)]); (try rw [if_neg (by assumption)]); (try rw [if_neg (by omega)])⟩ | (simp [intOf])
    · have q := idx_10
      have E : Hid (∀ m, m = dnA (-32768) n 10 → dnA (-32768) n (10 + 1) = if 32767 ≤ n then 32767 else m) := fun m hm => by subst hm; rfl
      obtain ⟨m, hm⟩ : ∃ m, m = dnA (-32768) n 10 := ⟨_, rfl⟩
      have E1 : Hid (dnA (-32768) n (10 + 1) = if 32767 ≤ n then 32767 else m) := E m hm
      rw [← hm]
      clear hm E
      go_wp2
      all_goals go_round
      all_goals
        have E2 : dnA (-32768) n (10 + 1) = if 32767 ≤ n then 32767 else m := E1
        first | exact ⟨10 + 1, by omega, by go_num, by rw [E2]; (try rw [if_pos (by assumption)]); (try rw [if_neg (by assumption)]); (try rw [if_neg (by omega)])⟩ | (simp [intOf])
    · go_wp2
      go_ret
      exact ⟨rfl, rfl⟩
theorem upA_eq (n : Int) : upA 32767 n 11 = if n ≤ (-32768) then (-32768) else if n ≤ (-1000) then (-1000) else if n ≤ (-100) then (-100) else if n ≤ (-10) then (-10) else if n ≤ (-1) then (-1) else if n ≤ 0 then 0 else if n ≤ 1 then 1 else if n ≤ 10 then 10 else if n ≤ 100 then 100 else if n ≤ 1000 then 1000 else if n ≤ 32767 then 32767 else 32767 := rfl

set_option maxRecDepth 10000 in
set_option maxHeartbeats 4000000 in
theorem aboveI (n : Int) (w : World) (h : StepsIn w) :
    Calls Tryd.prog 31 #[.int .i64 n] w fun e w' => e = .returned (.int .i64 (upA 32767 n 11)) ∧ w' = w := by
  obtain ⟨t0, t1, t2, t3, t4, t5, t6, t7, t8, t9, t10⟩ := h.at
  have E : Hid (upA 32767 n 11 = if n ≤ (-32768) then (-32768) else if n ≤ (-1000) then (-1000) else if n ≤ (-100) then (-100) else if n ≤ (-10) then (-10) else if n ≤ (-1) then (-1) else if n ≤ 0 then 0 else if n ≤ 1 then 1 else if n ≤ 10 then 10 else if n ≤ 100 then 100 else if n ≤ 1000 then 1000 else if n ≤ 32767 then 32767 else 32767) := upA_eq n
  generalize upA 32767 n 11 = r at E
  go_enter Tryd.func31, Tryd.ntmps31
  go_wp2
  clear t0 t1 t2 t3 t4 t5 t6 t7 t8 t9 t10
  go_loop [6] (fun i => ∃ k : Nat, k ≤ 11 ∧ i = .int .i64 k ∧ ∀ j, j + 1 = k → stp j < n) (fun i => 11 - (intOf i).toNat)
  case atStart => exact ⟨0, Nat.zero_le _, rfl, fun j hj => by omega⟩
  case round =>
    obtain ⟨k, hk, rfl, hlt⟩ := hrel
    rcases (show k = 0 ∨ k = 1 ∨ k = 2 ∨ k = 3 ∨ k = 4 ∨ k = 5 ∨ k = 6 ∨ k = 7 ∨ k = 8 ∨ k = 9 ∨ k = 10 ∨ k = 11 by omega) with rfl | rfl | rfl | rfl | rfl | rfl | rfl | rfl | rfl | rfl | rfl | rfl
    · have q := idx_0
      clear hlt
      go_wp2
      · have hge : n ≤ (-32768) := by assumption
        have E1 : r = if n ≤ (-32768) then (-32768) else if n ≤ (-1000) then (-1000) else if n ≤ (-100) then (-100) else if n ≤ (-10) then (-10) else if n ≤ (-1) then (-1) else if n ≤ 0 then 0 else if n ≤ 1 then 1 else if n ≤ 10 then 10 else if n ≤ 100 then 100 else if n ≤ 1000 then 1000 else if n ≤ 32767 then 32767 else 32767 := E
        go_ret
        refine ⟨ret_int ?_, rfl⟩
        rw [E1]
        repeat' split
        all_goals omega
      · have hl : (-32768) < n := by first | assumption | omega
        go_round
        case rel => exact ⟨0 + 1, by omega, by go_num, fun j hj => by
          obtain rfl : j = 0 := by omega
          exact hl⟩
        case measure => simp [intOf]
    · have q := idx_1
      have hp : (-32768) < n := hlt 0 rfl
      clear hlt
      go_wp2
      · have hge : n ≤ (-1000) := by assumption
        have E1 : r = if n ≤ (-32768) then (-32768) else if n ≤ (-1000) then (-1000) else if n ≤ (-100) then (-100) else if n ≤ (-10) then (-10) else if n ≤ (-1) then (-1) else if n ≤ 0 then 0 else if n ≤ 1 then 1 else if n ≤ 10 then 10 else if n ≤ 100 then 100 else if n ≤ 1000 then 1000 else if n ≤ 32767 then 32767 else 32767 := E
        go_ret
        refine ⟨ret_int ?_, rfl⟩
        rw [E1]
        repeat' split
        all_goals omega
      · have hl : (-1000) < n := by first | assumption | omega
        go_round
        case rel => exact ⟨1 + 1, by omega, by go_num, fun j hj => by
          obtain rfl : j = 1 := by omega
          exact hl⟩
        case measure => simp [intOf]
    · have q := idx_2
      have hp : (-1000) < n := hlt 1 rfl
      clear hlt
      go_wp2
      · have hge : n ≤ (-100) := by assumption
        have E1 : r = if n ≤ (-32768) then (-32768) else if n ≤ (-1000) then (-1000) else if n ≤ (-100) then (-100) else if n ≤ (-10) then (-10) else if n ≤ (-1) then (-1) else if n ≤ 0 then 0 else if n ≤ 1 then 1 else if n ≤ 10 then 10 else if n ≤ 100 then 100 else if n ≤ 1000 then 1000 else if n ≤ 32767 then 32767 else 32767 := E
        go_ret
        refine ⟨ret_int ?_, rfl⟩
        rw [E1]
        repeat' split
        all_goals omega
      · have hl : (-100) < n := by first | assumption | omega
        go_round
        case rel => exact ⟨2 + 1, by omega, by go_num, fun j hj => by
          obtain rfl : j = 2 := by omega
          exact hl⟩
        case measure => simp [intOf]
    · have q := idx_3
      have hp : (-100) < n := hlt 2 rfl
      clear hlt
      go_wp2
      · have hge : n ≤ (-10) := by assumption
        have E1 : r = if n ≤ (-32768) then (-32768) else if n ≤ (-1000) then (-1000) else if n ≤ (-100) then (-100) else if n ≤ (-10) then (-10) else if n ≤ (-1) then (-1) else if n ≤ 0 then 0 else if n ≤ 1 then 1 else if n ≤ 10 then 10 else if n ≤ 100 then 100 else if n ≤ 1000 then 1000 else if n ≤ 32767 then 32767 else 32767 := E
        go_ret
        refine ⟨ret_int ?_, rfl⟩
        rw [E1]
        repeat' split
        all_goals omega
      · have hl : (-10) < n := by first | assumption | omega
        go_round
        case rel => exact ⟨3 + 1, by omega, by go_num, fun j hj => by
          obtain rfl : j = 3 := by omega
          exact hl⟩
        case measure => simp [intOf]
    · have q := idx_4
      have hp : (-10) < n := hlt 3 rfl
      clear hlt
      go_wp2
      · have hge : n ≤ (-1) := by assumption
        have E1 : r = if n ≤ (-32768) then (-32768) else if n ≤ (-1000) then (-1000) else if n ≤ (-100) then (-100) else if n ≤ (-10) then (-10) else if n ≤ (-1) then (-1) else if n ≤ 0 then 0 else if n ≤ 1 then 1 else if n ≤ 10 then 10 else if n ≤ 100 then 100 else if n ≤ 1000 then 1000 else if n ≤ 32767 then 32767 else 32767 := E
        go_ret
        refine ⟨ret_int ?_, rfl⟩
        rw [E1]
        repeat' split
        all_goals omega
      · have hl : (-1) < n := by first | assumption | omega
        go_round
        case rel => exact ⟨4 + 1, by omega, by go_num, fun j hj => by
          obtain rfl : j = 4 := by omega
          exact hl⟩
        case measure => simp [intOf]
    · have q := idx_5
      have hp : (-1) < n := hlt 4 rfl
      clear hlt
      go_wp2
      · have hge : n ≤ 0 := by assumption
        have E1 : r = if n ≤ (-32768) then (-32768) else if n ≤ (-1000) then (-1000) else if n ≤ (-100) then (-100) else if n ≤ (-10) then (-10) else if n ≤ (-1) then (-1) else if n ≤ 0 then 0 else if n ≤ 1 then 1 else if n ≤ 10 then 10 else if n ≤ 100 then 100 else if n ≤ 1000 then 1000 else if n ≤ 32767 then 32767 else 32767 := E
        go_ret
        refine ⟨ret_int ?_, rfl⟩
        rw [E1]
        repeat' split
        all_goals omega
      · have hl : 0 < n := by first | assumption | omega
        go_round
        case rel => exact ⟨5 + 1, by omega, by go_num, fun j hj => by
          obtain rfl : j = 5 := by omega
          exact hl⟩
        case measure => simp [intOf]
    · have q := idx_6
      have hp : 0 < n := hlt 5 rfl
      clear hlt
      go_wp2
      · have hge : n ≤ 1 := by assumption
        have E1 : r = if n ≤ (-32768) then (-32768) else if n ≤ (-1000) then (-1000) else if n ≤ (-100) then (-100) else if n ≤ (-10) then (-10) else if n ≤ (-1) then (-1) else if n ≤ 0 then 0 else if n ≤ 1 then 1 else if n ≤ 10 then 10 else if n ≤ 100 then 100 else if n ≤ 1000 then 1000 else if n ≤ 32767 then 32767 else 32767 := E
        go_ret
        refine ⟨ret_int ?_, rfl⟩
        rw [E1]
        repeat' split
        all_goals omega
      · have hl : 1 < n := by first | assumption | omega
        go_round
        case rel => exact ⟨6 + 1, by omega, by go_num, fun j hj => by
          obtain rfl : j = 6 := by omega
          exact hl⟩
        case measure => simp [intOf]
    · have q := idx_7
      have hp : 1 < n := hlt 6 rfl
      clear hlt
      go_wp2
      · have hge : n ≤ 10 := by assumption
        have E1 : r = if n ≤ (-32768) then (-32768) else if n ≤ (-1000) then (-1000) else if n ≤ (-100) then (-100) else if n ≤ (-10) then (-10) else if n ≤ (-1) then (-1) else if n ≤ 0 then 0 else if n ≤ 1 then 1 else if n ≤ 10 then 10 else if n ≤ 100 then 100 else if n ≤ 1000 then 1000 else if n ≤ 32767 then 32767 else 32767 := E
        go_ret
        refine ⟨ret_int ?_, rfl⟩
        rw [E1]
        repeat' split
        all_goals omega
      · have hl : 10 < n := by first | assumption | omega
        go_round
        case rel => exact ⟨7 + 1, by omega, by go_num, fun j hj => by
          obtain rfl : j = 7 := by omega
          exact hl⟩
        case measure => simp [intOf]
    · have q := idx_8
      have hp : 10 < n := hlt 7 rfl
      clear hlt
      go_wp2
      · have hge : n ≤ 100 := by assumption
        have E1 : r = if n ≤ (-32768) then (-32768) else if n ≤ (-1000) then (-1000) else if n ≤ (-100) then (-100) else if n ≤ (-10) then (-10) else if n ≤ (-1) then (-1) else if n ≤ 0 then 0 else if n ≤ 1 then 1 else if n ≤ 10 then 10 else if n ≤ 100 then 100 else if n ≤ 1000 then 1000 else if n ≤ 32767 then 32767 else 32767 := E
        go_ret
        refine ⟨ret_int ?_, rfl⟩
        rw [E1]
        repeat' split
        all_goals omega
      · have hl : 100 < n := by first | assumption | omega
        go_round
        case rel => exact ⟨8 + 1, by omega, by go_num, fun j hj => by
          obtain rfl : j = 8 := by omega
          exact hl⟩
        case measure => simp [intOf]
    · have q := idx_9
      have hp : 100 < n := hlt 8 rfl
      clear hlt
      go_wp2
      · have hge : n ≤ 1000 := by assumption
        have E1 : r = if n ≤ (-32768) then (-32768) else if n ≤ (-1000) then (-1000) else if n ≤ (-100) then (-100) else if n ≤ (-10) then (-10) else if n ≤ (-1) then (-1) else if n ≤ 0 then 0 else if n ≤ 1 then 1 else if n ≤ 10 then 10 else if n ≤ 100 then 100 else if n ≤ 1000 then 1000 else if n ≤ 32767 then 32767 else 32767 := E
        go_ret
        refine ⟨ret_int ?_, rfl⟩
        rw [E1]
        repeat' split
        all_goals omega
      · have hl : 1000 < n := by first | assumption | omega
        go_round
        case rel => exact ⟨9 + 1, by omega, by go_num, fun j hj => by
          obtain rfl : j = 9 := by omega
          exact hl⟩
        case measure => simp [intOf]
    · have q := idx_10
      have hp : 1000 < n := hlt 9 rfl
      clear hlt
      go_wp2
      · have hge : n ≤ 32767 := by assumption
        have E1 : r = if n ≤ (-32768) then (-32768) else if n ≤ (-1000) then (-1000) else if n ≤ (-100) then (-100) else if n ≤ (-10) then (-10) else if n ≤ (-1) then (-1) else if n ≤ 0 then 0 else if n ≤ 1 then 1 else if n ≤ 10 then 10 else if n ≤ 100 then 100 else if n ≤ 1000 then 1000 else if n ≤ 32767 then 32767 else 32767 := E
        go_ret
        refine ⟨ret_int ?_, rfl⟩
        rw [E1]
        repeat' split
        all_goals omega
      · have hl : 32767 < n := by first | assumption | omega
        go_round
        case rel => exact ⟨10 + 1, by omega, by go_num, fun j hj => by
          obtain rfl : j = 10 := by omega
          exact hl⟩
        case measure => simp [intOf]
    · have hp : 32767 < n := hlt 10 rfl
      clear hlt
      go_wp2
      have E1 : r = if n ≤ (-32768) then (-32768) else if n ≤ (-1000) then (-1000) else if n ≤ (-100) then (-100) else if n ≤ (-10) then (-10) else if n ≤ (-1) then (-1) else if n ≤ 0 then 0 else if n ≤ 1 then 1 else if n ≤ 10 then 10 else if n ≤ 100 then 100 else if n ≤ 1000 then 1000 else if n ≤ 32767 then 32767 else 32767 := E
      go_ret
      refine ⟨ret_int ?_, rfl⟩
      rw [E1]
      repeat' split
      all_goals omega
end Go.Proofs.YtddcojeghdnhnaaDoor
