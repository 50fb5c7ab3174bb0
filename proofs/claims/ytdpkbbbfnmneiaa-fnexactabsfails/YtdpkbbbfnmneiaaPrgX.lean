/- Copies of programs as values in a region; a program counted from any number on. -/
import Derived.Test.YtdpkbbbfnmneiaaPrgTo2
import Derived.Test.YtdpkbbbfnmneiaaPrgEq
namespace Go.Proofs.Ytdpkbbbfnmneiaa
open Go.ChangeShapes Go.WideShapes Go.ChangeAt Go.RowKit

def PrgX (P : Nat → Proc) (m : Nat) (v : Value) (W : World) : Prop := ∃ (g : Nat) (S : Nat → Spot), v = .agg #[.slice (some ⟨g, 0, none⟩) m m] ∧ g < W.heap.size ∧ ProcsAt (some ⟨g, 0, none⟩) g 0 m P S W ∧ Copy S P m
theorem PrgX.next {P : Nat → Proc} {m : Nat} {v : Value} {W W' : World} (h : PrgX P m v W) (hb : Below W.heap.size W W') : PrgX P m v W' := by
  obtain ⟨g, S, e, h1, h2, h3⟩ := h
  exact ⟨g, S, e, Nat.lt_of_lt_of_le h1 hb.size, h2.next hb, h3⟩
theorem szPrgX (a : Option Addr) (b off m cap : Nat) (P : Nat → Proc) (S : Nat → Spot) (left : Int) (w : World) (hl : 0 ≤ left ∧ left ≤ 1048576) (hm : m ≤ maxLen) (hP : ProcsAt a b off m P S w) (hn : ∀ i, i < m → (P i).n ≤ maxLen) :
    Calls Try.prog 8 #[.agg #[.slice a m cap], .int .i64 left] w fun e w' => ∃ r : Int, e = .returned (.int .i64 r) ∧ (r = -1 ∨ (r = left - m - sizeTo P m ∧ 0 ≤ r)) ∧ Below w.heap.size w w' := by
  have b0 : Below w.heap.size w (w.alloc (.cells #[.slice a m cap] 24)) := (Below.refl w.heap.size w).alloc (Nat.le_refl _) _
  have hP0 := hP.next b0
  go_enter Try.func8, Try.ntmps8
  go_wp2_with fail
  refine (szProcs _ _ _ _ _ _ _ _ _ hl hm hP0 hn).mono ?_
  rintro e w1 ⟨r, rfl, hr, hb⟩
  have b1 := below_tr b0 hb
  clear hP hP0 hn
  rcases hr with rfl | ⟨hr, h0⟩
  · go_wp2_with fail
    go_ret
    exact ⟨_, rfl, .inl rfl, b1⟩
  · have hrS : Hid (r = left - m - sizeTo P m) := hr
    clear hr
    have hr' : ¬ r < 0 := by omega
    go_wp2_with fail
    go_ret
    exact ⟨_, rfl, .inr ⟨hrS.out, h0⟩, b1⟩
end Go.Proofs.Ytdpkbbbfnmneiaa
