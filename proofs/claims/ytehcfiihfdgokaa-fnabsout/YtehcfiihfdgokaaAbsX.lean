/- Copies of states as values in a region. -/
import Derived.Test.YtehcfiihfdgokaaBnd
namespace Go.Proofs.Ytehcfiihfdgokaa
open Go.ChangeShapes Go.WideShapes Go.ChangeAt Go.RowKit

def AbsV (on : Bool) (n : Nat) (lo hi : Nat → Int) (c d : Int) (v : Value) (W : World) : Prop := ∃ g : Nat, v = .agg #[.bool on, .slice (some ⟨g, 0, none⟩) n n, .int .i64 c, .int .i64 d] ∧ g < W.heap.size ∧ BndsAt (some ⟨g, 0, none⟩) g 0 n lo hi W
theorem AbsV.next {on : Bool} {n : Nat} {lo hi : Nat → Int} {c d : Int} {v : Value} {W W' : World} (h : AbsV on n lo hi c d v W) (hb : Below W.heap.size W W') : AbsV on n lo hi c d v W' := by
  obtain ⟨g, e, h1, h2⟩ := h
  exact ⟨g, e, Nat.lt_of_lt_of_le h1 hb.size, h2.next hb⟩
def IntsV (n : Nat) (z : Nat → Int) (v : Value) (W : World) : Prop := ∃ g : Nat, v = .slice (some ⟨g, 0, none⟩) n n ∧ g < W.heap.size ∧ IntsAt (some ⟨g, 0, none⟩) g 0 n z W
theorem IntsV.next {n : Nat} {z : Nat → Int} {v : Value} {W W' : World} (h : IntsV n z v W) (hb : Below W.heap.size W W') : IntsV n z v W' := by
  obtain ⟨g, e, h1, h2⟩ := h
  exact ⟨g, e, Nat.lt_of_lt_of_le h1 hb.size, h2.next hb⟩
end Go.Proofs.Ytehcfiihfdgokaa
