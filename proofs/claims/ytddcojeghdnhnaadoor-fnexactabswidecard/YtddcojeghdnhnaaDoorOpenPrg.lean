/- A program that is handed in: a list of procedures, each with its list of steps of eight ints. -/
import Derived.Test.YtddcojeghdnhnaaDoorOpen8
import Derived.Test.YtddcojeghdnhnaaDoorPrg
import Derived.DataReads
import Derived.ChangeOld
namespace Go.Proofs.YtddcojeghdnhnaaDoor
open Go.ChangeShapes Go.WideShapes Go.ChangeAt Go.RowKit

def blk : Option Addr → Nat
  | some a => a.block
  | none => 0
def ofs : Option Addr → Nat
  | some a => a.off
  | none => 0
def intC : Option Value → Int
  | some (.int _ z) => z
  | _ => 0
def slA : Option Value → Option Addr
  | some (.slice a _ _) => a
  | _ => none
def slN : Option Value → Nat
  | some (.slice _ n _) => n
  | _ => 0
def slC : Option Value → Nat
  | some (.slice _ _ c) => c
  | _ => 0
/-- What lies there, as steps of eight ints. -/
def rowsAt (w : World) (b off : Nat) : Nat → Nat → Int := fun k j => intC (w.cell? ⟨b, off + k * 8 + j, none⟩)
/-- What lies there, as procedures. -/
def procAt (w : World) (b off : Nat) : Nat → Proc := fun i =>
  ⟨intC (w.cell? ⟨b, off + i * 3, none⟩), intC (w.cell? ⟨b, off + i * 3 + 1, none⟩), slN (w.cell? ⟨b, off + i * 3 + 2, none⟩), rowsAt w (blk (slA (w.cell? ⟨b, off + i * 3 + 2, none⟩))) (ofs (slA (w.cell? ⟨b, off + i * 3 + 2, none⟩)))⟩
def spotAt (w : World) (b off : Nat) : Nat → Spot := fun i =>
  ⟨slA (w.cell? ⟨b, off + i * 3 + 2, none⟩), blk (slA (w.cell? ⟨b, off + i * 3 + 2, none⟩)), ofs (slA (w.cell? ⟨b, off + i * 3 + 2, none⟩)), slC (w.cell? ⟨b, off + i * 3 + 2, none⟩)⟩

theorem add_mk (b o n : Nat) : Addr.add ⟨b, o, none⟩ n = ⟨b, o + n, none⟩ := by
  unfold Addr.add
  split
  · rename_i h; subst h; rfl
  · rfl
theorem spot_none {w : World} {a : Addr} {v : Value} (h : w.cell? a = some v) : a.spot = none := by
  unfold World.cell? at h
  split at h
  · split at h
    · simp at h
    · rename_i hs; simpa using hs
  · simp at h
theorem block_lt {w : World} {a : Addr} {v : Value} (h : w.cell? a = some v) : a.block < w.heap.size := by
  rcases Nat.lt_or_ge a.block w.heap.size with h' | h'
  · exact h'
  · unfold World.cell? at h
    rw [Array.getElem?_eq_none h'] at h
    simp at h
end Go.Proofs.YtddcojeghdnhnaaDoor
