/- A run that is handed in: a list of calls, each with two lists of ints. -/
import Derived.Test.YtdpkbbbfnmneiaaOpenPrg
import Derived.Test.YtdpkbbbfnmneiaaRun
namespace Go.Proofs.Ytdpkbbbfnmneiaa
open Go.ChangeShapes Go.WideShapes Go.ChangeAt Go.RowKit

/-- What lies there, as ints. -/
def numsAt (w : World) (b off : Nat) : Nat → Int := fun k => intC (w.cell? ⟨b, off + k, none⟩)
/-- What lies there, as calls. -/
def frmAt (w : World) (b off : Nat) : Nat → Frm := fun i =>
  ⟨intC (w.cell? ⟨b, off + i * 4, none⟩), intC (w.cell? ⟨b, off + i * 4 + 1, none⟩), slN (w.cell? ⟨b, off + i * 4 + 2, none⟩), numsAt w (blk (slA (w.cell? ⟨b, off + i * 4 + 2, none⟩))) (ofs (slA (w.cell? ⟨b, off + i * 4 + 2, none⟩))), slN (w.cell? ⟨b, off + i * 4 + 3, none⟩), numsAt w (blk (slA (w.cell? ⟨b, off + i * 4 + 3, none⟩))) (ofs (slA (w.cell? ⟨b, off + i * 4 + 3, none⟩)))⟩
def fspotAt (w : World) (b off : Nat) : Nat → FSpot := fun i =>
  ⟨⟨slA (w.cell? ⟨b, off + i * 4 + 2, none⟩), blk (slA (w.cell? ⟨b, off + i * 4 + 2, none⟩)), ofs (slA (w.cell? ⟨b, off + i * 4 + 2, none⟩)), slC (w.cell? ⟨b, off + i * 4 + 2, none⟩)⟩, ⟨slA (w.cell? ⟨b, off + i * 4 + 3, none⟩), blk (slA (w.cell? ⟨b, off + i * 4 + 3, none⟩)), ofs (slA (w.cell? ⟨b, off + i * 4 + 3, none⟩)), slC (w.cell? ⟨b, off + i * 4 + 3, none⟩)⟩⟩
theorem open_nums {H : Type} {enc : TypeId × Value → H} {w : World} {base : Nat} {sp : Nat → Bool} {held : Bool} {fuel : Nat} {v : Value} {x : DataW H × List MemPlace}
    (h : DataW.trod enc Try.prog w base sp held fuel 25 [v] = some x) :
    ∃ (a : Option Addr) (n cap : Nat), v = .slice a n cap ∧ n ≤ maxLen ∧ IntsAt a (blk a) (ofs a) n (numsAt w (blk a) (ofs a)) w := by
  have hC : Try.prog.cellsOf 3 = 1 := by kernel_rfl
  rcases DataW.trod_slice Try.underlying25 h with ⟨hcs, _⟩ | ⟨a, n, cap, elems, rest, m, _, hcs, _, hb, hl, hm, hlen, hel, _, _⟩
  · simp at hcs
    exact ⟨none, 0, 0, hcs, Nat.zero_le _, ⟨fun h => absurd h (by omega), fun h => absurd h (by omega), fun k hk => absurd hk (by omega)⟩⟩
  · simp at hcs
    have each : ∀ k, k < n → ∃ z, w.cell? ((a.add (k * 1)).add 0) = some (.int .i64 z) := by
      intro k hk
      have h1 := hel k hk
      rw [hC, List.getElem?_eq_getElem (by omega), Option.bind_eq_some_iff] at h1
      obtain ⟨cs, hc1, hc2⟩ := h1
      obtain ⟨hb', hln, hcell⟩ := World.cells?_some hc1
      match cs, hln with
      | [c0], _ =>
        have d0 := hcell 0 (by omega)
        obtain ⟨z, e, _, _⟩ := DataW.trod_int Try.underlying3 hc2
        simp at e
        subst e
        exact ⟨z, d0⟩
    have hsp : 0 < n → a.spot = none := fun h0 => by
      obtain ⟨z, hz⟩ := each 0 h0
      exact (spot_none hz : _)
    refine ⟨some a, n, cap, hcs, Nat.le_trans hl hm, ⟨fun h0 => ?_, fun h0 => ?_, fun k hk => ?_⟩⟩
    · have := hsp h0
      obtain ⟨b, o, s⟩ := a
      simp only at this
      subst this
      rfl
    · obtain ⟨z, hz⟩ := each 0 h0
      exact block_lt hz
    · have := hsp (by omega)
      obtain ⟨z, hz⟩ := each k hk
      obtain ⟨b, o, s⟩ := a
      simp only at this
      subst this
      have hz' : w.cell? ⟨b, o + k, none⟩ = some (.int .i64 z) := by simpa only [add_mk, Nat.add_zero, Nat.mul_one] using hz
      simp only [numsAt, blk, ofs, hz', intC]
end Go.Proofs.Ytdpkbbbfnmneiaa
