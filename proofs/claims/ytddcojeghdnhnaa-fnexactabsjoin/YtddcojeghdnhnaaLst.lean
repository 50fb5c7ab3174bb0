/- Lists of ints that a call was handed back: what the laws do with them (compare, mark, look whether the marks are held). -/
import Derived.Test.YtddcojeghdnhnaaHeld
import Derived.Test.YtddcojeghdnhnaaNums
import Derived.WalkKit
import Derived.ProofKit
import Derived.OpenShut
import Derived.Below
import Derived.Deep.QuietTactic
import Derived.BigQuiet
namespace Go.Proofs.Ytddcojeghdnhnaa
open Go.ChangeShapes Go.WideShapes Go.ChangeAt Go.RowKit

/-- v is the list zs; if there is anything in it, it lies in block g, at or behind B. -/
structure LstAt (B g : Nat) (a : Option Addr) (zs : List Int) (W : World) : Prop where
  at_ : 0 < zs.length → a = some ⟨g, 0, none⟩
  lo : 0 < zs.length → B ≤ g ∧ g < W.heap.size
  cell : ∀ j, j < zs.length → W.cell? ⟨g, j, none⟩ = some (.int .i64 (zs.getD j 0))
  free : 0 < zs.length → ∀ j, W.frozen? ⟨g, j, none⟩ = false
theorem LstAt.next {B g : Nat} {a : Option Addr} {zs : List Int} {W W' : World} (h : LstAt B g a zs W) (hb : Below W.heap.size W W') : LstAt B g a zs W' :=
  ⟨h.at_, fun hz => ⟨(h.lo hz).1, Nat.lt_of_lt_of_le (h.lo hz).2 hb.size⟩, fun j hj => (hb.cell (p := ⟨g, j, none⟩) (h.lo (by omega)).2).trans (h.cell j hj), fun hz j => (hb.frozen (p := ⟨g, j, none⟩) (h.lo hz).2).trans (h.free hz j)⟩

set_option maxHeartbeats 2000000 in
theorem eqInts (a b : Option Addr) (ca cb B C g h n : Nat) (zs : List Int) (w : World) (hn : zs.length = n) (hbig : n < 1000000) (ha : LstAt B g a zs w) (hb : LstAt C h b zs w) :
    Calls Try.prog 29 #[.slice a n ca, .slice b n cb] w fun e w' => e = .returned (.bool true) ∧ Below w.heap.size w w' := by
  go_enter Try.func29, Try.ntmps29
  go_wp2
  go_loopw [5] (fun i wr => ∃ k : Nat, k ≤ n ∧ i = .int .i64 k ∧ Below w.heap.size w wr) (fun i _ => n - (intOf i).toNat)
  case atStart => exact ⟨0, Nat.zero_le _, rfl, Below.refl _ _⟩
  case round =>
    obtain ⟨k, hk, rfl, hB⟩ := hrel
    by_cases hlt : k < n
    · have h0 : 0 < zs.length := by omega
      have e1 := ha.at_ h0
      have e2 := hb.at_ h0
      subst e1 e2
      have c1 := (ha.next hB).cell k (by omega)
      have c2 := (hb.next hB).cell k (by omega)
      have t1 : ((k : Int)).toNat = k := by omega
      have t2 : (0 : Int) ≤ (k : Int) := by omega
      have t3 : (k : Int) < (n : Int) := by omega
      clear ha hb hn h0
      generalize zs.getD k 0 = x at c1 c2
      go_wp2_with fail
      go_quiet (fail)
      go_wp2
      go_roundw
      case rel => exact ⟨k + 1, by omega, by go_num, below_dn hB _⟩
      case measure => simp [intOf]; omega
    · obtain rfl : k = n := by omega
      go_wp2
      go_ret
      exact ⟨rfl, hB⟩

def marks (n : Nat) : List Int := (List.range n).map fun j : Nat => (j : Int) + 1
theorem marks_len (n : Nat) : (marks n).length = n := by simp [marks]
theorem marks_get {n j : Nat} (h : j < n) : (marks n).getD j 0 = (j : Int) + 1 := by simp [marks, h]

theorem LstAt.nextB {B C h : Nat} {b : Option Addr} {zs : List Int} {W W' : World} (k : LstAt C h b zs W) (hb : Below B W W') (hh : 0 < zs.length → h < B) : LstAt C h b zs W' :=
  ⟨k.at_, fun hz => ⟨(k.lo hz).1, Nat.lt_of_lt_of_le (k.lo hz).2 hb.size⟩, fun j hj => (hb.cell (p := ⟨h, j, none⟩) (hh (by omega))).trans (k.cell j hj), fun hz j => (hb.frozen (p := ⟨h, j, none⟩) (hh hz)).trans (k.free hz j)⟩

end Go.Proofs.Ytddcojeghdnhnaa
