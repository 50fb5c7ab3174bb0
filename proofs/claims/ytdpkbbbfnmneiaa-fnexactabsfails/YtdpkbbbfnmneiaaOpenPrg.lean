/- A program that is handed in: a list of procedures, each with its list of steps of eight ints. -/
import Derived.Test.YtdpkbbbfnmneiaaOpen8
import Derived.Test.YtdpkbbbfnmneiaaPrg
import Derived.DataReads
import Derived.ChangeOld
namespace Go.Proofs.Ytdpkbbbfnmneiaa
open Go.ChangeShapes Go.WideShapes Go.ChangeAt Go.RowKit

def blk : Option Addr → Nat
  | some a => a.block
  | none => 0
def ofs : Option Addr → Nat
  | some a => a.off
  | none => 0
def intC : Option Value → Int
  | some (.int _ z) => z
  | _ => 0
def slA : Option Value → Option Addr
  | some (.slice a _ _) => a
  | _ => none
def slN : Option Value → Nat
  | some (.slice _ n _) => n
  | _ => 0
def slC : Option Value → Nat
  | some (.slice _ _ c) => c
  | _ => 0
/-- What lies there, as steps of eight ints. -/
def rowsAt (w : World) (b off : Nat) : Nat → Nat → Int := fun k j => intC (w.cell? ⟨b, off + k * 8 + j, none⟩)
/-- What lies there, as procedures. -/
def procAt (w : World) (b off : Nat) : Nat → Proc := fun i =>
  ⟨intC (w.cell? ⟨b, off + i * 3, none⟩), intC (w.cell? ⟨b, off + i * 3 + 1, none⟩), slN (w.cell? ⟨b, off + i * 3 + 2, none⟩), rowsAt w (blk (slA (w.cell? ⟨b, off + i * 3 + 2, none⟩))) (ofs (slA (w.cell? ⟨b, off + i * 3 + 2, none⟩)))⟩
def spotAt (w : World) (b off : Nat) : Nat → Spot := fun i =>
  ⟨slA (w.cell? ⟨b, off + i * 3 + 2, none⟩), blk (slA (w.cell? ⟨b, off + i * 3 + 2, none⟩)), ofs (slA (w.cell? ⟨b, off + i * 3 + 2, none⟩)), slC (w.cell? ⟨b, off + i * 3 + 2, none⟩)⟩

theorem add_mk (b o n : Nat) : Addr.add ⟨b, o, none⟩ n = ⟨b, o + n, none⟩ := by
  unfold Addr.add
  split
  · rename_i h; subst h; rfl
  · rfl
theorem spot_none {w : World} {a : Addr} {v : Value} (h : w.cell? a = some v) : a.spot = none := by
  unfold World.cell? at h
  split at h
  · split at h
    · simp at h
    · rename_i hs; simpa using hs
  · simp at h
theorem block_lt {w : World} {a : Addr} {v : Value} (h : w.cell? a = some v) : a.block < w.heap.size := by
  rcases Nat.lt_or_ge a.block w.heap.size with h' | h'
  · exact h'
  · unfold World.cell? at h
    rw [Array.getElem?_eq_none h'] at h
    simp at h
theorem open_code {H : Type} {enc : TypeId × Value → H} {w : World} {base : Nat} {sp : Nat → Bool} {held : Bool} {fuel : Nat} {v : Value} {x : DataW H × List MemPlace}
    (h : DataW.trod enc Try.prog w base sp held fuel 137 [v] = some x) :
    ∃ (a : Option Addr) (n cap : Nat), v = .slice a n cap ∧ n ≤ maxLen ∧ CodeAt a (blk a) (ofs a) n (rowsAt w (blk a) (ofs a)) w := by
  have hC : Try.prog.cellsOf 64 = 8 := by kernel_rfl
  rcases DataW.trod_slice Try.underlying137 h with ⟨hcs, _⟩ | ⟨a, n, cap, elems, rest, m, _, hcs, _, hb, hl, hm, hlen, hel, _, _⟩
  · simp at hcs
    exact ⟨none, 0, 0, hcs, Nat.zero_le _, ⟨fun h => absurd h (by omega), fun h => absurd h (by omega), fun k j hk => absurd hk (by omega)⟩⟩
  · simp at hcs
    have each : ∀ k j, k < n → j < 8 → ∃ z, w.cell? ((a.add (k * 8)).add j) = some (.int .i64 z) := by
      intro k j hk hj
      have h1 := hel k hk
      rw [hC, List.getElem?_eq_getElem (by omega), Option.bind_eq_some_iff] at h1
      obtain ⟨cs, hc1, hc2⟩ := h1
      obtain ⟨hb', hln, hcell⟩ := World.cells?_some hc1
      match cs, hln with
      | [c0, c1, c2, c3, c4, c5, c6, c7], _ =>
        obtain ⟨z0, z1, z2, z3, z4, z5, z6, z7, rfl, rfl, rfl, rfl, rfl, rfl, rfl, rfl, _⟩ := open_cells8 hc2
        have := hcell j hj
        rcases (show j = 0 ∨ j = 1 ∨ j = 2 ∨ j = 3 ∨ j = 4 ∨ j = 5 ∨ j = 6 ∨ j = 7 by omega) with rfl | rfl | rfl | rfl | rfl | rfl | rfl | rfl <;> exact ⟨_, this⟩
    have hsp : 0 < n → a.spot = none := fun h0 => by
      obtain ⟨z, hz⟩ := each 0 0 h0 (by omega)
      exact (spot_none hz : _)
    refine ⟨some a, n, cap, hcs, Nat.le_trans hl hm, ⟨fun h0 => ?_, fun h0 => ?_, fun k j hk hj => ?_⟩⟩
    · have := hsp h0
      obtain ⟨b, o, s⟩ := a
      simp only at this
      subst this
      rfl
    · obtain ⟨z, hz⟩ := each 0 0 h0 (by omega)
      exact block_lt hz
    · have := hsp (by omega)
      obtain ⟨z, hz⟩ := each k j hk hj
      obtain ⟨b, o, s⟩ := a
      simp only at this
      subst this
      have hz' : w.cell? ⟨b, o + k * 8 + j, none⟩ = some (.int .i64 z) := by simpa only [add_mk, Nat.add_zero] using hz
      simp only [rowsAt, blk, ofs, hz', intC]
theorem open_procs {H : Type} {enc : TypeId × Value → H} {w : World} {base : Nat} {sp : Nat → Bool} {held : Bool} {fuel : Nat} {v : Value} {x : DataW H × List MemPlace}
    (h : DataW.trod enc Try.prog w base sp held fuel 22 [v] = some x) :
    ∃ (a : Option Addr) (m cap : Nat), v = .slice a m cap ∧ m ≤ maxLen ∧ (∀ i, i < m → (procAt w (blk a) (ofs a) i).n ≤ maxLen) ∧ ProcsAt a (blk a) (ofs a) m (procAt w (blk a) (ofs a)) (spotAt w (blk a) (ofs a)) w := by
  have hC : Try.prog.cellsOf 139 = 3 := by kernel_rfl
  have hc1' : Try.prog.cellsOf 3 = 1 := by kernel_rfl
  have hc2' : Try.prog.cellsOf 137 = 1 := by kernel_rfl
  rcases DataW.trod_slice Try.underlying22 h with ⟨hcs, _⟩ | ⟨a, n, cap, elems, rest, m, _, hcs, _, hb, hl, hm, hlen, hel, _, _⟩
  · simp at hcs
    exact ⟨none, 0, 0, hcs, Nat.zero_le _, fun i hi => absurd hi (by omega), ⟨fun h => absurd h (by omega), fun h => absurd h (by omega), fun i hi => absurd hi (by omega), fun i hi => absurd hi (by omega), fun i hi => absurd hi (by omega), fun i hi => absurd hi (by omega)⟩⟩
  · simp at hcs
    have each : ∀ k, k < n → ∃ (z0 z1 : Int) (s : Option Addr) (l c : Nat), w.cell? ((a.add (k * 3)).add 0) = some (.int .i64 z0) ∧ w.cell? ((a.add (k * 3)).add 1) = some (.int .i64 z1) ∧ w.cell? ((a.add (k * 3)).add 2) = some (.slice s l c) ∧ l ≤ maxLen ∧ CodeAt s (blk s) (ofs s) l (rowsAt w (blk s) (ofs s)) w := by
      intro k hk
      have h1 := hel k hk
      rw [hC, List.getElem?_eq_getElem (by omega), Option.bind_eq_some_iff] at h1
      obtain ⟨cs, hc1, hc2⟩ := h1
      obtain ⟨hb', hln, hcell⟩ := World.cells?_some hc1
      match cs, hln with
      | [c0, c1, c2], _ =>
        have d0 := hcell 0 (by omega)
        have d1 := hcell 1 (by omega)
        have d2 := hcell 2 (by omega)
        obtain ⟨ys, q, _, _, _, hl', hf⟩ := Go.DataW.trod_struct Try.underlying139 hc2
        match ys, hl' with
        | [y0, y1, y2], _ =>
          have hy0 := hf 0 _ rfl
          have hy1 := hf 1 _ rfl
          have hy2 := hf 2 _ rfl
          simp [hc1'] at hy0 hy1
          simp [hc2'] at hy2
          obtain ⟨z0, e0, _, _⟩ := DataW.trod_int Try.underlying3 hy0
          obtain ⟨z1, e1, _, _⟩ := DataW.trod_int Try.underlying3 hy1
          obtain ⟨s, l, c, e2, hml, hcd⟩ := open_code hy2
          simp at e0 e1
          subst e0 e1 e2
          exact ⟨z0, z1, s, l, c, d0, d1, d2, hml, hcd⟩
    have hsp : 0 < n → a.spot = none := fun h0 => by
      obtain ⟨z, _, _, _, _, hz, _⟩ := each 0 h0
      exact (spot_none hz : _)
    refine ⟨some a, n, cap, hcs, Nat.le_trans hl hm, fun i hi => ?_, ⟨fun h0 => ?_, fun h0 => ?_, fun i hi => ?_, fun i hi => ?_, fun i hi => ?_, fun i hi => ?_⟩⟩
    · have := hsp (by omega)
      obtain ⟨z0, z1, s, l, c, d0, d1, d2, hml, hcd⟩ := each i hi
      obtain ⟨b, o, sq⟩ := a
      simp only at this
      subst this
      have d2' : w.cell? ⟨b, o + i * 3 + 2, none⟩ = some (.slice s l c) := by simpa only [add_mk, Nat.add_zero] using d2
      simp only [procAt, blk, ofs, d2', slN]
      exact hml
    · have := hsp h0
      obtain ⟨b, o, s⟩ := a
      simp only at this
      subst this
      rfl
    · obtain ⟨z, _, _, _, _, hz, _⟩ := each 0 h0
      exact block_lt hz
    all_goals
      have := hsp (by omega)
      obtain ⟨z0, z1, s, l, c, d0, d1, d2, hml, hcd⟩ := each i hi
      obtain ⟨b, o, sq⟩ := a
      simp only at this
      subst this
      have d0' : w.cell? ⟨b, o + i * 3, none⟩ = some (.int .i64 z0) := by simpa only [add_mk, Nat.add_zero] using d0
      have d1' : w.cell? ⟨b, o + i * 3 + 1, none⟩ = some (.int .i64 z1) := by simpa only [add_mk, Nat.add_zero] using d1
      have d2' : w.cell? ⟨b, o + i * 3 + 2, none⟩ = some (.slice s l c) := by simpa only [add_mk, Nat.add_zero] using d2
      first
        | (simp only [procAt, blk, ofs, d0', intC]; done)
        | (simp only [procAt, blk, ofs, d1', intC]; done)
        | (simp only [procAt, spotAt, blk, ofs, d2', slN, slA, slC]; done)
        | (simp only [procAt, spotAt, blk, ofs, d2', slN, slA, slC]; exact hcd)
set_option maxRecDepth 10000 in
theorem open_prog {H : Type} {enc : TypeId × Value → H} {w : World} {base : Nat} {sp : Nat → Bool} {held : Bool} {r : Reach} {b0 : Nat} {v : Value} {d : DataW H} {ps : List MemPlace}
    (hv : Value.okWide Try.prog w r b0 24 v) (h : DataW.Trod enc Try.prog w base sp held 24 v d ps) :
    ∃ (a : Option Addr) (m cap : Nat), v = .agg #[.slice a m cap] ∧ m ≤ maxLen ∧ (∀ i, i < m → (procAt w (blk a) (ofs a) i).n ≤ maxLen) ∧ ProcsAt a (blk a) (ofs a) m (procAt w (blk a) (ofs a)) (spotAt w (blk a) (ofs a)) w := by
  have hC : Try.prog.cellsOf 24 = 1 := by kernel_rfl
  have hc1' : Try.prog.cellsOf 22 = 1 := by kernel_rfl
  obtain ⟨cs, rfl, hsz⟩ := okWide_struct Try.underlying24 hv
  obtain ⟨c0, rfl⟩ : ∃ c0, cs = #[c0] := by
    obtain ⟨l⟩ := cs
    have := hsz.trans hC
    match l, this with
    | [c0], _ => exact ⟨c0, rfl⟩
  obtain ⟨fuel, hf⟩ := h
  obtain ⟨ys, q, _, _, _, hl', hf'⟩ := Go.DataW.trod_struct Try.underlying24 hf
  match ys, hl' with
  | [y0], _ =>
    have hy0 := hf' 0 _ rfl
    simp [hc1', Value.cells] at hy0
    obtain ⟨a, m, cap, rfl, h1, h2, h3⟩ := open_procs hy0
    exact ⟨a, m, cap, rfl, h1, h2, h3⟩
end Go.Proofs.Ytdpkbbbfnmneiaa
