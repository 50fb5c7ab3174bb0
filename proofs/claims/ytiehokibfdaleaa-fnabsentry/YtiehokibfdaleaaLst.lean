/- Lists of ints that a call was handed back: what the laws do with them (compare, mark, look whether the marks are held). -/
import Derived.Test.YtiehokibfdaleaaHeld
import Derived.Test.YtiehokibfdaleaaNums
import Derived.WalkKit
import Derived.ProofKit
import Derived.OpenShut
import Derived.Below
import Derived.Deep.QuietTactic
import Derived.BigQuiet
namespace Go.Proofs.Ytiehokibfdaleaa
open Go.ChangeShapes Go.WideShapes Go.ChangeAt Go.RowKit

/-- v is the list zs; if there is anything in it, it lies in block g, at or behind B. -/
structure LstAt (B g : Nat) (a : Option Addr) (zs : List Int) (W : World) : Prop where
  at_ : 0 < zs.length → a = some ⟨g, 0, none⟩
  lo : 0 < zs.length → B ≤ g ∧ g < W.heap.size
  cell : ∀ j, j < zs.length → W.cell? ⟨g, j, none⟩ = some (.int .i64 (zs.getD j 0))
  free : 0 < zs.length → ∀ j, W.frozen? ⟨g, j, none⟩ = false
theorem LstAt.next {B g : Nat} {a : Option Addr} {zs : List Int} {W W' : World} (h : LstAt B g a zs W) (hb : Below W.heap.size W W') : LstAt B g a zs W' :=
  ⟨h.at_, fun hz => ⟨(h.lo hz).1, Nat.lt_of_lt_of_le (h.lo hz).2 hb.size⟩, fun j hj => (hb.cell (p := ⟨g, j, none⟩) (h.lo (by omega)).2).trans (h.cell j hj), fun hz j => (hb.frozen (p := ⟨g, j, none⟩) (h.lo hz).2).trans (h.free hz j)⟩

def marks (n : Nat) : List Int := (List.range n).map fun j : Nat => (j : Int) + 1
theorem marks_len (n : Nat) : (marks n).length = n := by simp [marks]
theorem marks_get {n j : Nat} (h : j < n) : (marks n).getD j 0 = (j : Int) + 1 := by simp [marks, h]

theorem LstAt.nextB {B C h : Nat} {b : Option Addr} {zs : List Int} {W W' : World} (k : LstAt C h b zs W) (hb : Below B W W') (hh : 0 < zs.length → h < B) : LstAt C h b zs W' :=
  ⟨k.at_, fun hz => ⟨(k.lo hz).1, Nat.lt_of_lt_of_le (k.lo hz).2 hb.size⟩, fun j hj => (hb.cell (p := ⟨h, j, none⟩) (hh (by omega))).trans (k.cell j hj), fun hz j => (hb.frozen (p := ⟨h, j, none⟩) (hh hz)).trans (k.free hz j)⟩

end Go.Proofs.Ytiehokibfdaleaa
