/- Programs in memory: a list of procedures, each with a list of steps of eight ints. What the laws count of them. -/
import Derived.Test.YtiehokibfdaleaaHeld8
import Derived.Test.YtiehokibfdaleaaNums
import Derived.WalkKit
import Derived.ProofKit
import Derived.OpenShut
import Derived.Below
import Derived.Deep.QuietTactic
import Derived.BigQuiet
namespace Go.Proofs.Ytiehokibfdaleaa
open Go.ChangeShapes Go.WideShapes Go.ChangeAt Go.RowKit

/-- A procedure: its bounds, how many steps, and field j of step k. -/
structure Proc where
  lo : Int
  hi : Int
  n : Nat
  c : Nat → Nat → Int
/-- n steps lie at a, in block b from off on. -/
structure CodeAt (a : Option Addr) (b off n : Nat) (c : Nat → Nat → Int) (W : World) : Prop where
  at_ : 0 < n → a = some ⟨b, off, none⟩
  lt : 0 < n → b < W.heap.size
  cell : ∀ k j, k < n → j < 8 → W.cell? ⟨b, off + k * 8 + j, none⟩ = some (.int .i64 (c k j))
/-- Where procedure i's steps lie. -/
structure Spot where
  a : Option Addr
  b : Nat
  off : Nat
  cap : Nat
/-- m procedures lie at a, in block b from off on. -/
structure ProcsAt (a : Option Addr) (b off m : Nat) (P : Nat → Proc) (S : Nat → Spot) (W : World) : Prop where
  at_ : 0 < m → a = some ⟨b, off, none⟩
  lt : 0 < m → b < W.heap.size
  lo : ∀ i, i < m → W.cell? ⟨b, off + i * 3, none⟩ = some (.int .i64 (P i).lo)
  hi : ∀ i, i < m → W.cell? ⟨b, off + i * 3 + 1, none⟩ = some (.int .i64 (P i).hi)
  code : ∀ i, i < m → W.cell? ⟨b, off + i * 3 + 2, none⟩ = some (.slice (S i).a (P i).n (S i).cap)
  steps : ∀ i, i < m → CodeAt (S i).a (S i).b (S i).off (P i).n (P i).c W
theorem CodeAt.next {a : Option Addr} {b off n : Nat} {c : Nat → Nat → Int} {W W' : World} (h : CodeAt a b off n c W) (hb : Below W.heap.size W W') : CodeAt a b off n c W' :=
  ⟨h.at_, fun hn => Nat.lt_of_lt_of_le (h.lt hn) hb.size, fun k j hk hj => (hb.cell (p := ⟨b, off + k * 8 + j, none⟩) (h.lt (by omega))).trans (h.cell k j hk hj)⟩
theorem ProcsAt.next {a : Option Addr} {b off m : Nat} {P : Nat → Proc} {S : Nat → Spot} {W W' : World} (h : ProcsAt a b off m P S W) (hb : Below W.heap.size W W') : ProcsAt a b off m P S W' :=
  have k : ∀ o, 0 < m → W'.cell? ⟨b, o, none⟩ = W.cell? ⟨b, o, none⟩ := fun o hm => hb.cell (p := ⟨b, o, none⟩) (h.lt hm)
  ⟨h.at_, fun hm => Nat.lt_of_lt_of_le (h.lt hm) hb.size, fun i hi => (k _ (by omega)).trans (h.lo i hi), fun i hi => (k _ (by omega)).trans (h.hi i hi), fun i hi => (k _ (by omega)).trans (h.code i hi), fun i hi => (h.steps i hi).next hb⟩

/-- What the first procedures have in all. -/
def sizeTo (P : Nat → Proc) : Nat → Nat
  | 0 => 0
  | i + 1 => sizeTo P i + (P i).n
theorem sizeTo_le {P : Nat → Proc} {i m : Nat} (h : i < m) : (P i).n ≤ sizeTo P m := by
  induction m with
  | zero => omega
  | succ m ih =>
    rcases (show i < m ∨ i = m by omega) with h' | rfl
    · have := ih h'
      simp only [sizeTo]; omega
    · simp only [sizeTo]; omega
end Go.Proofs.Ytiehokibfdaleaa
