/- A program that is handed in: a list of procedures, each with its list of steps of eight ints. -/
import Derived.Test.YtddcojeghdnhnaaOpen8
import Derived.Test.YtddcojeghdnhnaaPrg
import Derived.DataReads
import Derived.ChangeOld
namespace Go.Proofs.Ytddcojeghdnhnaa
open Go.ChangeShapes Go.WideShapes Go.ChangeAt Go.RowKit

def blk : Option Addr → Nat
  | some a => a.block
  | none => 0
def ofs : Option Addr → Nat
  | some a => a.off
  | none => 0
def intC : Option Value → Int
  | some (.int _ z) => z
  | _ => 0
def slA : Option Value → Option Addr
  | some (.slice a _ _) => a
  | _ => none
def slN : Option Value → Nat
  | some (.slice _ n _) => n
  | _ => 0
def slC : Option Value → Nat
  | some (.slice _ _ c) => c
  | _ => 0
/-- What lies there, as steps of eight ints. -/
def rowsAt (w : World) (b off : Nat) : Nat → Nat → Int := fun k j => intC (w.cell? ⟨b, off + k * 8 + j, none⟩)
/-- What lies there, as procedures. -/
def procAt (w : World) (b off : Nat) : Nat → Proc := fun i =>
  ⟨intC (w.cell? ⟨b, off + i * 3, none⟩), intC (w.cell? ⟨b, off + i * 3 + 1, none⟩), slN (w.cell? ⟨b, off + i * 3 + 2, none⟩), rowsAt w (blk (slA (w.cell? ⟨b, off + i * 3 + 2, none⟩))) (ofs (slA (w.cell? ⟨b, off + i * 3 + 2, none⟩)))⟩
def spotAt (w : World) (b off : Nat) : Nat → Spot := fun i =>
  ⟨slA (w.cell? ⟨b, off + i * 3 + 2, none⟩), blk (slA (w.cell? ⟨b, off + i * 3 + 2, none⟩)), ofs (slA (w.cell? ⟨b, off + i * 3 + 2, none⟩)), slC (w.cell? ⟨b, off + i * 3 + 2, none⟩)⟩

theorem add_mk (b o n : Nat) : Addr.add ⟨b, o, none⟩ n = ⟨b, o + n, none⟩ := by
  unfold Addr.add
  split
  · rename_i h; subst h; rfl
  · rfl
theorem spot_none {w : World} {a : Addr} {v : Value} (h : w.cell? a = some v) : a.spot = none := by
  unfold World.cell? at h
  split at h
  · split at h
    · simp at h
    · rename_i hs; simpa using hs
  · simp at h
theorem block_lt {w : World} {a : Addr} {v : Value} (h : w.cell? a = some v) : a.block < w.heap.size := by
  rcases Nat.lt_or_ge a.block w.heap.size with h' | h'
  · exact h'
  · unfold World.cell? at h
    rw [Array.getElem?_eq_none h'] at h
    simp at h
theorem open_code {H : Type} {enc : TypeId × Value → H} {w : World} {base : Nat} {sp : Nat → Bool} {held : Bool} {fuel : Nat} {v : Value} {x : DataW H × List MemPlace}
    (h : DataW.trod enc Try.prog w base sp held fuel 36 [v] = some x) :
    ∃ (a : Option Addr) (n cap : Nat), v = .slice a n cap ∧ n ≤ maxLen ∧ CodeAt a (blk a) (ofs a) n (rowsAt w (blk a) (ofs a)) w := by
  have hC : Try.prog.cellsOf 57 = 8 := by kernel_rfl
  rcases DataW.trod_slice Try.underlying36 h with ⟨hcs, _⟩ | ⟨a, n, cap, elems, rest, m, _, hcs, _, hb, hl, hm, hlen, hel, _, _⟩
  · simp at hcs
    exact ⟨none, 0, 0, hcs, Nat.zero_le _, ⟨fun h => absurd h (by omega), fun h => absurd h (by omega), fun k j hk => absurd hk (by omega)⟩⟩
  · simp at hcs
    have each : ∀ k j, k < n → j < 8 → ∃ z, w.cell? ((a.add (k * 8)).add j) = some (.int .i64 z) := by
      intro k j hk hj
      have h1 := hel k hk
      rw [hC, List.getElem?_eq_getElem (by omega), Option.bind_eq_some_iff] at h1
      obtain ⟨cs, hc1, hc2⟩ := h1
      obtain ⟨hb', hln, hcell⟩ := World.cells?_some hc1
      match cs, hln with
      | [c0, c1, c2, c3, c4, c5, c6, c7], _ =>
        obtain ⟨z0, z1, z2, z3, z4, z5, z6, z7, rfl, rfl, rfl, rfl, rfl, rfl, rfl, rfl, _⟩ := open_cells8 hc2
        have := hcell j hj
        rcases (show j = 0 ∨ j = 1 ∨ j = 2 ∨ j = 3 ∨ j = 4 ∨ j = 5 ∨ j = 6 ∨ j = 7 by omega) with rfl | rfl | rfl | rfl | rfl | rfl | rfl | rfl <;> exact ⟨_, this⟩
    have hsp : 0 < n → a.spot = none := fun h0 => by
      obtain ⟨z, hz⟩ := each 0 0 h0 (by omega)
      exact (spot_none hz : _)
    refine ⟨some a, n, cap, hcs, Nat.le_trans hl hm, ⟨fun h0 => ?_, fun h0 => ?_, fun k j hk hj => ?_⟩⟩
    · have := hsp h0
      obtain ⟨b, o, s⟩ := a
      simp only at this
      subst this
      rfl
    · obtain ⟨z, hz⟩ := each 0 0 h0 (by omega)
      exact block_lt hz
    · have := hsp (by omega)
      obtain ⟨z, hz⟩ := each k j hk hj
      obtain ⟨b, o, s⟩ := a
      simp only at this
      subst this
      have hz' : w.cell? ⟨b, o + k * 8 + j, none⟩ = some (.int .i64 z) := by simpa only [add_mk, Nat.add_zero] using hz
      simp only [rowsAt, blk, ofs, hz', intC]
end Go.Proofs.Ytddcojeghdnhnaa
