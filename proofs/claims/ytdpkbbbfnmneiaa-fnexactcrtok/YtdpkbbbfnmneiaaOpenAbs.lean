/- A state that is handed in: a list of bounds, and two more ends. Lists of sums that are handed in. -/
import Derived.Test.YtdpkbbbfnmneiaaOpenRun
import Derived.Test.YtdpkbbbfnmneiaaBnd
namespace Go.Proofs.Ytdpkbbbfnmneiaa
open Go.ChangeShapes Go.WideShapes Go.ChangeAt Go.RowKit

def bolC : Option Value → Bool
  | some (.bool b) => b
  | _ => false
theorem open_ends {H : Type} {enc : TypeId × Value → H} {w : World} {base : Nat} {sp : Nat → Bool} {held : Bool} {fuel : Nat} {c0 c1 : Value} {x : DataW H × List MemPlace}
    (h : DataW.trod enc Try.prog w base sp held fuel 67 [c0, c1] = some x) : ∃ z0 z1 : Int, c0 = .int .i64 z0 ∧ c1 = .int .i64 z1 := by
  have hc1' : Try.prog.cellsOf 3 = 1 := by kernel_rfl
  obtain ⟨ys, q, _, _, _, hl', hf⟩ := Go.DataW.trod_struct Try.underlying67 h
  match ys, hl' with
  | [y0, y1], _ =>
    have hy0 := hf 0 _ rfl
    have hy1 := hf 1 _ rfl
    simp [hc1'] at hy0 hy1
    obtain ⟨z0, e0, _, _⟩ := DataW.trod_int Try.underlying3 hy0
    obtain ⟨z1, e1, _, _⟩ := DataW.trod_int Try.underlying3 hy1
    simp at e0 e1
    exact ⟨z0, z1, e0, e1⟩
def endsAt (w : World) (b off d : Nat) : Nat → Int := fun k => intC (w.cell? ⟨b, off + k * 2 + d, none⟩)
theorem open_bnds {H : Type} {enc : TypeId × Value → H} {w : World} {base : Nat} {sp : Nat → Bool} {held : Bool} {fuel : Nat} {v : Value} {x : DataW H × List MemPlace}
    (h : DataW.trod enc Try.prog w base sp held fuel 65 [v] = some x) :
    ∃ (a : Option Addr) (n cap : Nat), v = .slice a n cap ∧ n ≤ maxLen ∧ BndsAt a (blk a) (ofs a) n (endsAt w (blk a) (ofs a) 0) (endsAt w (blk a) (ofs a) 1) w := by
  have hC : Try.prog.cellsOf 67 = 2 := by kernel_rfl
  rcases DataW.trod_slice Try.underlying65 h with ⟨hcs, _⟩ | ⟨a, n, cap, elems, rest, m, _, hcs, _, hb, hl, hm, hlen, hel, _, _⟩
  · simp at hcs
    exact ⟨none, 0, 0, hcs, Nat.zero_le _, ⟨fun h => absurd h (by omega), fun h => absurd h (by omega), fun k hk => absurd hk (by omega), fun k hk => absurd hk (by omega)⟩⟩
  · simp at hcs
    have each : ∀ k, k < n → ∃ z0 z1, w.cell? ((a.add (k * 2)).add 0) = some (.int .i64 z0) ∧ w.cell? ((a.add (k * 2)).add 1) = some (.int .i64 z1) := by
      intro k hk
      have h1 := hel k hk
      rw [hC, List.getElem?_eq_getElem (by omega), Option.bind_eq_some_iff] at h1
      obtain ⟨cs, hc1, hc2⟩ := h1
      obtain ⟨hb', hln, hcell⟩ := World.cells?_some hc1
      match cs, hln with
      | [c0, c1], _ =>
        have d0 := hcell 0 (by omega)
        have d1 := hcell 1 (by omega)
        obtain ⟨z0, z1, rfl, rfl⟩ := open_ends hc2
        exact ⟨z0, z1, d0, d1⟩
    have hsp : 0 < n → a.spot = none := fun h0 => by
      obtain ⟨z, _, hz, _⟩ := each 0 h0
      exact (spot_none hz : _)
    refine ⟨some a, n, cap, hcs, Nat.le_trans hl hm, ⟨fun h0 => ?_, fun h0 => ?_, fun k hk => ?_, fun k hk => ?_⟩⟩
    · have := hsp h0
      obtain ⟨b, o, s⟩ := a
      simp only at this
      subst this
      rfl
    · obtain ⟨z, _, hz, _⟩ := each 0 h0
      exact block_lt hz
    all_goals
      have := hsp (by omega)
      obtain ⟨z0, z1, hz0, hz1⟩ := each k hk
      obtain ⟨b, o, s⟩ := a
      simp only at this
      subst this
      have hz0' : w.cell? ⟨b, o + k * 2, none⟩ = some (.int .i64 z0) := by simpa only [add_mk, Nat.add_zero] using hz0
      have hz1' : w.cell? ⟨b, o + k * 2 + 1, none⟩ = some (.int .i64 z1) := by simpa only [add_mk, Nat.add_zero] using hz1
      first
        | (simp only [endsAt, blk, ofs, Nat.add_zero, hz0', intC]; done)
        | (simp only [endsAt, blk, ofs, hz1', intC]; done)
set_option maxRecDepth 10000 in
theorem open_abs {H : Type} {enc : TypeId × Value → H} {w : World} {base : Nat} {sp : Nat → Bool} {held : Bool} {r : Reach} {b0 : Nat} {v : Value} {d : DataW H} {ps : List MemPlace}
    (hv : Value.okWide Try.prog w r b0 69 v) (h : DataW.Trod enc Try.prog w base sp held 69 v d ps) :
    ∃ (on : Bool) (c e : Int) (a : Option Addr) (n cap : Nat), v = .agg #[.bool on, .slice a n cap, .int .i64 c, .int .i64 e] ∧ n ≤ maxLen ∧ BndsAt a (blk a) (ofs a) n (endsAt w (blk a) (ofs a) 0) (endsAt w (blk a) (ofs a) 1) w := by
  have hC : Try.prog.cellsOf 69 = 4 := by kernel_rfl
  have hc1' : Try.prog.cellsOf 4 = 1 := by kernel_rfl
  have hc2' : Try.prog.cellsOf 65 = 1 := by kernel_rfl
  have hc3' : Try.prog.cellsOf 67 = 2 := by kernel_rfl
  obtain ⟨cs, rfl, hsz⟩ := okWide_struct Try.underlying69 hv
  obtain ⟨c0, c1, c2, c3, rfl⟩ : ∃ c0 c1 c2 c3, cs = #[c0, c1, c2, c3] := by
    obtain ⟨l⟩ := cs
    have := hsz.trans hC
    match l, this with
    | [c0, c1, c2, c3], _ => exact ⟨c0, c1, c2, c3, rfl⟩
  obtain ⟨fuel, hf⟩ := h
  obtain ⟨ys, q, _, _, _, hl', hf'⟩ := Go.DataW.trod_struct Try.underlying69 hf
  match ys, hl' with
  | [y0, y1, y2], _ =>
    have hy0 := hf' 0 _ rfl
    have hy1 := hf' 1 _ rfl
    have hy2 := hf' 2 _ rfl
    simp [hc1', hc2', hc3', Value.cells] at hy0 hy1 hy2
    obtain ⟨on, e0, _⟩ := DataW.trod_bool Try.underlying4 hy0
    obtain ⟨a, n, cap, e1, h1, h2⟩ := open_bnds hy1
    obtain ⟨z2, z3, e2, e3⟩ := open_ends hy2
    simp at e0
    subst e0 e1 e2 e3
    exact ⟨on, z2, z3, a, n, cap, rfl, h1, h2⟩
end Go.Proofs.Ytdpkbbbfnmneiaa
