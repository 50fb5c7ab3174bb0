/- Programs in memory: a list of procedures, each with a list of steps of eight ints. What the laws count of them. -/
import Derived.Test.YtdpkbbbfnmneiaaHeld8
import Derived.Test.YtdpkbbbfnmneiaaNums
import Derived.WalkKit
import Derived.ProofKit
import Derived.OpenShut
import Derived.Below
import Derived.Deep.QuietTactic
import Derived.BigQuiet
namespace Go.Proofs.Ytdpkbbbfnmneiaa
open Go.ChangeShapes Go.WideShapes Go.ChangeAt Go.RowKit

/-- A procedure: its bounds, how many steps, and field j of step k. -/
structure Proc where
  lo : Int
  hi : Int
  n : Nat
  c : Nat → Nat → Int
/-- n steps lie at a, in block b from off on. -/
structure CodeAt (a : Option Addr) (b off n : Nat) (c : Nat → Nat → Int) (W : World) : Prop where
  at_ : 0 < n → a = some ⟨b, off, none⟩
  lt : 0 < n → b < W.heap.size
  cell : ∀ k j, k < n → j < 8 → W.cell? ⟨b, off + k * 8 + j, none⟩ = some (.int .i64 (c k j))
/-- Where procedure i's steps lie. -/
structure Spot where
  a : Option Addr
  b : Nat
  off : Nat
  cap : Nat
/-- m procedures lie at a, in block b from off on. -/
structure ProcsAt (a : Option Addr) (b off m : Nat) (P : Nat → Proc) (S : Nat → Spot) (W : World) : Prop where
  at_ : 0 < m → a = some ⟨b, off, none⟩
  lt : 0 < m → b < W.heap.size
  lo : ∀ i, i < m → W.cell? ⟨b, off + i * 3, none⟩ = some (.int .i64 (P i).lo)
  hi : ∀ i, i < m → W.cell? ⟨b, off + i * 3 + 1, none⟩ = some (.int .i64 (P i).hi)
  code : ∀ i, i < m → W.cell? ⟨b, off + i * 3 + 2, none⟩ = some (.slice (S i).a (P i).n (S i).cap)
  steps : ∀ i, i < m → CodeAt (S i).a (S i).b (S i).off (P i).n (P i).c W
theorem CodeAt.next {a : Option Addr} {b off n : Nat} {c : Nat → Nat → Int} {W W' : World} (h : CodeAt a b off n c W) (hb : Below W.heap.size W W') : CodeAt a b off n c W' :=
  ⟨h.at_, fun hn => Nat.lt_of_lt_of_le (h.lt hn) hb.size, fun k j hk hj => (hb.cell (p := ⟨b, off + k * 8 + j, none⟩) (h.lt (by omega))).trans (h.cell k j hk hj)⟩
theorem ProcsAt.next {a : Option Addr} {b off m : Nat} {P : Nat → Proc} {S : Nat → Spot} {W W' : World} (h : ProcsAt a b off m P S W) (hb : Below W.heap.size W W') : ProcsAt a b off m P S W' :=
  have k : ∀ o, 0 < m → W'.cell? ⟨b, o, none⟩ = W.cell? ⟨b, o, none⟩ := fun o hm => hb.cell (p := ⟨b, o, none⟩) (h.lt hm)
  ⟨h.at_, fun hm => Nat.lt_of_lt_of_le (h.lt hm) hb.size, fun i hi => (k _ (by omega)).trans (h.lo i hi), fun i hi => (k _ (by omega)).trans (h.hi i hi), fun i hi => (k _ (by omega)).trans (h.code i hi), fun i hi => (h.steps i hi).next hb⟩

/-- How many places are left when so many procedures were counted; -1 once there were none. -/
theorem szIns (a : Option Addr) (n cap : Nat) (left : Int) (w : World) (hl : 0 ≤ left ∧ left ≤ 1048576) (hn : n ≤ maxLen) :
    Calls Try.prog 110 #[.slice a n cap, .int .i64 left] w fun e w' => ∃ r : Int, e = .returned (.int .i64 r) ∧ (r = -1 ∨ (r = left - n ∧ 0 ≤ r)) ∧ Below w.heap.size w w' := by
  have hw : IntKind.i64.wrap (left - (n : Int)) = left - n := by
    have : maxLen ≤ 9223372036854775807 := by decide
    simp [IntKind.wrap, IntKind.signed, IntKind.bits]; omega
  go_enter Try.func110, Try.ntmps110
  go_wp2
  all_goals go_ret
  · exact ⟨_, rfl, .inl rfl, Below.refl _ _⟩
  · exact ⟨_, rfl, .inr ⟨rfl, by omega⟩, Below.refl _ _⟩

theorem szProc (lo hi : Int) (a : Option Addr) (n cap : Nat) (left : Int) (w : World) (hl : 0 ≤ left ∧ left ≤ 1048576) (hn : n ≤ maxLen) :
    Calls Try.prog 82 #[.agg #[.int .i64 lo, .int .i64 hi, .slice a n cap], .int .i64 left] w fun e w' => ∃ r : Int, e = .returned (.int .i64 r) ∧ (r = -1 ∨ (r = left - n ∧ 0 ≤ r)) ∧ Below w.heap.size w w' := by
  go_enter Try.func82, Try.ntmps82
  go_wp2_with fail
  refine (szIns _ _ _ _ _ hl hn).mono ?_
  rintro e w1 ⟨r, rfl, hr, hb⟩
  have b1 := ((Below.refl w.heap.size w).alloc (Nat.le_refl _) (.cells #[.int .i64 lo, .int .i64 hi, .slice a n cap] 139)).trans (hb.mono (by simp))
  rcases hr with rfl | ⟨hr, h0⟩
  · go_wp2
    go_ret
    exact ⟨_, rfl, .inl rfl, b1⟩
  · go_wp2
    all_goals go_ret
    all_goals first | (exfalso; omega) | exact ⟨_, rfl, .inr ⟨by first | rfl | exact hr, by omega⟩, b1⟩

/-- What the first procedures have in all. -/
def sizeTo (P : Nat → Proc) : Nat → Nat
  | 0 => 0
  | i + 1 => sizeTo P i + (P i).n
set_option maxHeartbeats 2000000 in
theorem szProcs (a : Option Addr) (b off m cap : Nat) (P : Nat → Proc) (S : Nat → Spot) (left : Int) (w : World) (hl : 0 ≤ left ∧ left ≤ 1048576) (hm : m ≤ maxLen) (hP : ProcsAt a b off m P S w) (hn : ∀ i, i < m → (P i).n ≤ maxLen) :
    Calls Try.prog 39 #[.slice a m cap, .int .i64 left] w fun e w' => ∃ r : Int, e = .returned (.int .i64 r) ∧ (r = -1 ∨ (r = left - m - sizeTo P m ∧ 0 ≤ r)) ∧ Below w.heap.size w w' := by
  have hw : IntKind.i64.wrap (left - (m : Int)) = left - m := by
    have : maxLen ≤ 9223372036854775807 := by decide
    simp [IntKind.wrap, IntKind.signed, IntKind.bits]; omega
  go_enter Try.func39, Try.ntmps39
  go_wp2
  · go_ret
    exact ⟨_, rfl, .inl rfl, Below.refl _ _⟩
  have hge : 0 ≤ left - (m : Int) := by first | assumption | omega
  go_loopw [1, 5] (fun q i wr => ∃ (k : Nat) (r : Int), k ≤ m ∧ i = .int .i64 k ∧ q = .int .i64 r ∧ r = left - m - sizeTo P k ∧ 0 ≤ r ∧ Below w.heap.size w wr) (fun _ i _ => m - (intOf i).toNat)
  case atStart => exact ⟨0, _, Nat.zero_le _, rfl, rfl, by simp [sizeTo], hge, Below.refl _ _⟩
  case round =>
    obtain ⟨k, r, hk, rfl, rfl, hr, hr0, hB⟩ := hrel
    by_cases hlt : k < m
    · have hP' := hP.next hB
      have e1 := hP'.at_ (by omega)
      have c0 := hP'.lo k hlt
      have c1 := hP'.hi k hlt
      have c2 := hP'.code k hlt
      have hn' := hn k hlt
      have E : Hid (sizeTo P (k + 1) = sizeTo P k + (P k).n) := rfl
      have hrS : Hid (r = left - m - sizeTo P k) := hr
      have t1 : ((k : Int)).toNat = k := by omega
      have t2 : (0 : Int) ≤ (k : Int) := by omega
      have t3 : (k : Int) < (m : Int) := by omega
      have hr1 : r ≤ 1048576 := by omega
      subst e1
      clear hP hP' hn hr
      generalize (P k).lo = lo at c0
      generalize (P k).hi = hi at c1
      generalize hx : (P k).n = x at c2 hn' E
      clear hx
      generalize S k = s at c2
      go_wp2_with fail
      refine (szProc _ _ _ _ _ _ _ ⟨hr0, hr1⟩ hn').mono ?_
      rintro e w1 ⟨q, rfl, hq, hb⟩
      have hB1 := below_tr hB hb
      rcases hq with rfl | ⟨hq, h0⟩
      · go_wp2_with fail
        go_ret
        exact ⟨_, rfl, .inl rfl, hB1⟩
      · have hqS : Hid (q = r - x) := hq
        clear hq
        have hq' : ¬ q < 0 := by omega
        go_wp2_with fail
        go_roundw
        case rel => exact ⟨k + 1, q, by omega, by go_num, rfl, by rw [E.out, hqS.out, hrS.out]; push_cast; omega, h0, hB1⟩
        case measure => simp [intOf]; omega
    · obtain rfl : k = m := by omega
      clear hP hn
      go_wp2_with fail
      go_ret
      exact ⟨_, rfl, .inr ⟨hr, hr0⟩, hB⟩

theorem szPrg (a : Option Addr) (b off m cap : Nat) (P : Nat → Proc) (S : Nat → Spot) (w : World) (hm : m ≤ maxLen) (hP : ProcsAt a b off m P S w) (hn : ∀ i, i < m → (P i).n ≤ maxLen) :
    Calls Try.prog 8 #[.agg #[.slice a m cap], .int .i64 1048576] w fun e w' => ∃ r : Int, e = .returned (.int .i64 r) ∧ (r = -1 ∨ (m + sizeTo P m ≤ 1048576 ∧ 0 ≤ r)) ∧ Below w.heap.size w w' := by
  have b0 : Below w.heap.size w (w.alloc (.cells #[.slice a m cap] 24)) := (Below.refl w.heap.size w).alloc (Nat.le_refl _) _
  have hP0 := hP.next b0
  go_enter Try.func8, Try.ntmps8
  go_wp2_with fail
  refine (szProcs _ _ _ _ _ _ _ _ _ (by omega) hm hP0 hn).mono ?_
  rintro e w1 ⟨r, rfl, hr, hb⟩
  have b1 := below_tr b0 hb
  clear hP hP0 hn
  rcases hr with rfl | ⟨hr, h0⟩
  · go_wp2_with fail
    go_ret
    exact ⟨_, rfl, .inl rfl, b1⟩
  · have hrS : Hid (r = 1048576 - m - sizeTo P m) := hr
    clear hr
    have hr' : ¬ r < 0 := by omega
    go_wp2_with fail
    go_ret
    exact ⟨_, rfl, .inr ⟨by have := hrS.out; omega, h0⟩, b1⟩
theorem sizeTo_le {P : Nat → Proc} {i m : Nat} (h : i < m) : (P i).n ≤ sizeTo P m := by
  induction m with
  | zero => omega
  | succ m ih =>
    rcases (show i < m ∨ i = m by omega) with h' | rfl
    · have := ih h'
      simp only [sizeTo]; omega
    · simp only [sizeTo]; omega
end Go.Proofs.Ytdpkbbbfnmneiaa
