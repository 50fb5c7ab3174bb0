/- How two bounds stand: the program's (I), in parts. -/
import Derived.Test.YtdpkbbbfnmneiaaItvI
import Derived.WalkKit
import Derived.ProofKit
import Derived.OpenShut
import Derived.Below
namespace Go.Proofs.Ytdpkbbbfnmneiaa
open Go.ChangeShapes Go.WideShapes Go.ChangeAt Go.RowKit

theorem standOfI_1 (w : World) : Calls Try.prog 124 #[.int .i64 1] w fun e w' => e = .returned (.iface 204 (.agg #[])) ∧ w' = w := by
  go_enter Try.func124, Try.ntmps124
  go_wp2
  go_ret
  exact ⟨rfl, rfl⟩
theorem standOfI_2 (w : World) : Calls Try.prog 124 #[.int .i64 2] w fun e w' => e = .returned (.iface 205 (.agg #[])) ∧ w' = w := by
  go_enter Try.func124, Try.ntmps124
  go_wp2
  go_ret
  exact ⟨rfl, rfl⟩
theorem standOfI_3 (w : World) : Calls Try.prog 124 #[.int .i64 3] w fun e w' => e = .returned (.iface 206 (.agg #[])) ∧ w' = w := by
  go_enter Try.func124, Try.ntmps124
  go_wp2
  go_ret
  exact ⟨rfl, rfl⟩
theorem standOfI_4 (w : World) : Calls Try.prog 124 #[.int .i64 4] w fun e w' => e = .returned (.iface 207 (.agg #[])) ∧ w' = w := by
  go_enter Try.func124, Try.ntmps124
  go_wp2
  go_ret
  exact ⟨rfl, rfl⟩
theorem standOfI_n (rel : Int) (w : World) (h1 : rel ≠ 1) (h2 : rel ≠ 2) (h3 : rel ≠ 3) (h4 : rel ≠ 4) : Calls Try.prog 124 #[.int .i64 rel] w fun e w' => e = .returned Value.nilIface ∧ w' = w := by
  have g1 : (rel == 1) = false := by simpa using h1
  have g2 : (rel == 2) = false := by simpa using h2
  have g3 : (rel == 3) = false := by simpa using h3
  have g4 : (rel == 4) = false := by simpa using h4
  go_enter Try.func124, Try.ntmps124
  go_wp2
  go_ret
  exact ⟨rfl, rfl⟩

def woLo (a c d : Int) : Int := if c = d ∧ a = c then a + 1 else a
def woHi (b c d : Int) : Int := if c = d ∧ b = c then b - 1 else b

set_option maxHeartbeats 1000000 in
theorem withoutI (a b c d : Int) (w : World) (a1 : -32768 ≤ a) (a2 : a ≤ 32767) (a3 : -32768 ≤ b) (a4 : b ≤ 32767) :
    Calls Try.prog 176 #[.agg #[.int .i64 a, .int .i64 b], .agg #[.int .i64 c, .int .i64 d]] w fun e w' => e = .returned (.agg #[.int .i64 (woLo a c d), .int .i64 (woHi b c d)]) ∧ Below w.heap.size w w' := by
  by_cases h1 : c = d
  · subst h1
    by_cases h2 : a = c
    · by_cases h3 : b = c
      · have g1 : (a == c) = true := by simpa using h2
        have g2 : (b == c) = true := by simpa using h3
        have k1 : woLo a c c = a + 1 := by simp [woLo, h2]
        have k2 : woHi b c c = b - 1 := by simp [woHi, h3]
        rw [k1, k2]
        clear h2 h3 k1 k2
        go_enter Try.func176, Try.ntmps176
        go_wp2
        refine bodyPost_ret (v := .agg #[.int .i64 (a + 1), .int .i64 (b - 1)]) (by simp [results, Try.results176, go_sem]) rfl ⟨rfl, ?_⟩
        repeat (first | exact Below.refl _ _ | refine Below.drew ?_ | refine Below.alloc ?_ (by simp; try omega) _ | refine Below.setCell ?_ (by simp; try omega) _)
      · have g1 : (a == c) = true := by simpa using h2
        have g2 : (b == c) = false := by simpa using h3
        have k1 : woLo a c c = a + 1 := by simp [woLo, h2]
        have k2 : woHi b c c = b := by simp [woHi, h3]
        rw [k1, k2]
        clear h2 h3 k1 k2
        go_enter Try.func176, Try.ntmps176
        go_wp2
        refine bodyPost_ret (v := .agg #[.int .i64 (a + 1), .int .i64 (b)]) (by simp [results, Try.results176, go_sem]) rfl ⟨rfl, ?_⟩
        repeat (first | exact Below.refl _ _ | refine Below.drew ?_ | refine Below.alloc ?_ (by simp; try omega) _ | refine Below.setCell ?_ (by simp; try omega) _)
    · by_cases h3 : b = c
      · have g1 : (a == c) = false := by simpa using h2
        have g2 : (b == c) = true := by simpa using h3
        have k1 : woLo a c c = a := by simp [woLo, h2]
        have k2 : woHi b c c = b - 1 := by simp [woHi, h3]
        rw [k1, k2]
        clear h2 h3 k1 k2
        go_enter Try.func176, Try.ntmps176
        go_wp2
        refine bodyPost_ret (v := .agg #[.int .i64 (a), .int .i64 (b - 1)]) (by simp [results, Try.results176, go_sem]) rfl ⟨rfl, ?_⟩
        repeat (first | exact Below.refl _ _ | refine Below.drew ?_ | refine Below.alloc ?_ (by simp; try omega) _ | refine Below.setCell ?_ (by simp; try omega) _)
      · have g1 : (a == c) = false := by simpa using h2
        have g2 : (b == c) = false := by simpa using h3
        have k1 : woLo a c c = a := by simp [woLo, h2]
        have k2 : woHi b c c = b := by simp [woHi, h3]
        rw [k1, k2]
        clear h2 h3 k1 k2
        go_enter Try.func176, Try.ntmps176
        go_wp2
        refine bodyPost_ret (v := .agg #[.int .i64 (a), .int .i64 (b)]) (by simp [results, Try.results176, go_sem]) rfl ⟨rfl, ?_⟩
        repeat (first | exact Below.refl _ _ | refine Below.drew ?_ | refine Below.alloc ?_ (by simp; try omega) _ | refine Below.setCell ?_ (by simp; try omega) _)
  · have g1 : (c == d) = false := by simpa using h1
    have k1 : woLo a c d = a := by simp [woLo, h1]
    have k2 : woHi b c d = b := by simp [woHi, h1]
    rw [k1, k2]
    clear h1 k1 k2
    go_enter Try.func176, Try.ntmps176
    go_wp2
    refine bodyPost_ret (v := .agg #[.int .i64 (a), .int .i64 (b)]) (by simp [results, Try.results176, go_sem]) rfl ⟨rfl, ?_⟩
    repeat (first | exact Below.refl _ _ | refine Below.drew ?_ | refine Below.alloc ?_ (by simp; try omega) _ | refine Below.setCell ?_ (by simp; try omega) _)

end Go.Proofs.Ytdpkbbbfnmneiaa
