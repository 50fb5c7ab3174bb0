/- Runs held against each other: what the laws' eq.. functions answer of two copies of one run. -/
import Derived.Test.YtdpkbbbfnmneiaaRunTo2
import Derived.Test.YtdpkbbbfnmneiaaRegInv
import Derived.Test.YtdpkbbbfnmneiaaDrawIs
import Derived.Deep.QuietTactic
import Derived.BigQuiet
namespace Go.Proofs.Ytdpkbbbfnmneiaa
open Go.ChangeShapes Go.WideShapes Go.ChangeAt Go.RowKit

set_option maxHeartbeats 2000000 in
theorem eqIntsA (g h n : Nat) (z : Nat → Int) (w : World) (hbig : n ≤ 1048576) (ha : IntsAt (some ⟨g, 0, none⟩) g 0 n z w) (hb : IntsAt (some ⟨h, 0, none⟩) h 0 n z w) :
    Calls Try.prog 16 #[.slice (some ⟨g, 0, none⟩) n n, .slice (some ⟨h, 0, none⟩) n n] w fun e w' => e = .returned (.bool true) ∧ Below w.heap.size w w' := by
  go_enter Try.func16, Try.ntmps16
  go_wp2
  go_loopw [5] (fun i wr => ∃ k : Nat, k ≤ n ∧ i = .int .i64 k ∧ Below w.heap.size w wr) (fun i _ => n - (intOf i).toNat)
  case atStart => exact ⟨0, Nat.zero_le _, rfl, Below.refl _ _⟩
  case round =>
    obtain ⟨k, hk, rfl, hB⟩ := hrel
    by_cases hlt : k < n
    · have c1 := (ha.next hB).cell k hlt
      have c2 := (hb.next hB).cell k hlt
      rw [Nat.zero_add] at c1 c2
      have t1 : ((k : Int)).toNat = k := by omega
      have t2 : (0 : Int) ≤ (k : Int) := by omega
      have t3 : (k : Int) < (n : Int) := by omega
      clear ha hb
      generalize z k = x at c1 c2
      go_wp2_with fail
      go_quiet (fail)
      go_wp2
      go_roundw
      case rel => exact ⟨k + 1, by omega, by go_num, below_dn hB _⟩
      case measure => simp [intOf]; omega
    · obtain rfl : k = n := by omega
      go_wp2
      go_ret
      exact ⟨rfl, hB⟩
end Go.Proofs.Ytdpkbbbfnmneiaa
