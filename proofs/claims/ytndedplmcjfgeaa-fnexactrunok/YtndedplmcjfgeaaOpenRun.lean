/- A run that is handed in: a list of calls, each with two lists of ints. -/
import Derived.Test.YtndedplmcjfgeaaOpenPrg
import Derived.Test.YtndedplmcjfgeaaRun
namespace Go.Proofs.Ytndedplmcjfgeaa
open Go.ChangeShapes Go.WideShapes Go.ChangeAt Go.RowKit

/-- What lies there, as ints. -/
def numsAt (w : World) (b off : Nat) : Nat → Int := fun k => intC (w.cell? ⟨b, off + k, none⟩)
/-- What lies there, as calls. -/
def frmAt (w : World) (b off : Nat) : Nat → Frm := fun i =>
  ⟨intC (w.cell? ⟨b, off + i * 4, none⟩), intC (w.cell? ⟨b, off + i * 4 + 1, none⟩), slN (w.cell? ⟨b, off + i * 4 + 2, none⟩), numsAt w (blk (slA (w.cell? ⟨b, off + i * 4 + 2, none⟩))) (ofs (slA (w.cell? ⟨b, off + i * 4 + 2, none⟩))), slN (w.cell? ⟨b, off + i * 4 + 3, none⟩), numsAt w (blk (slA (w.cell? ⟨b, off + i * 4 + 3, none⟩))) (ofs (slA (w.cell? ⟨b, off + i * 4 + 3, none⟩)))⟩
def fspotAt (w : World) (b off : Nat) : Nat → FSpot := fun i =>
  ⟨⟨slA (w.cell? ⟨b, off + i * 4 + 2, none⟩), blk (slA (w.cell? ⟨b, off + i * 4 + 2, none⟩)), ofs (slA (w.cell? ⟨b, off + i * 4 + 2, none⟩)), slC (w.cell? ⟨b, off + i * 4 + 2, none⟩)⟩, ⟨slA (w.cell? ⟨b, off + i * 4 + 3, none⟩), blk (slA (w.cell? ⟨b, off + i * 4 + 3, none⟩)), ofs (slA (w.cell? ⟨b, off + i * 4 + 3, none⟩)), slC (w.cell? ⟨b, off + i * 4 + 3, none⟩)⟩⟩
theorem open_nums {H : Type} {enc : TypeId × Value → H} {w : World} {base : Nat} {sp : Nat → Bool} {held : Bool} {fuel : Nat} {v : Value} {x : DataW H × List MemPlace}
    (h : DataW.trod enc Try.prog w base sp held fuel 55 [v] = some x) :
    ∃ (a : Option Addr) (n cap : Nat), v = .slice a n cap ∧ n ≤ maxLen ∧ IntsAt a (blk a) (ofs a) n (numsAt w (blk a) (ofs a)) w := by
  have hC : Try.prog.cellsOf 3 = 1 := by kernel_rfl
  rcases DataW.trod_slice Try.underlying55 h with ⟨hcs, _⟩ | ⟨a, n, cap, elems, rest, m, _, hcs, _, hb, hl, hm, hlen, hel, _, _⟩
  · simp at hcs
    exact ⟨none, 0, 0, hcs, Nat.zero_le _, ⟨fun h => absurd h (by omega), fun h => absurd h (by omega), fun k hk => absurd hk (by omega)⟩⟩
  · simp at hcs
    have each : ∀ k, k < n → ∃ z, w.cell? ((a.add (k * 1)).add 0) = some (.int .i64 z) := by
      intro k hk
      have h1 := hel k hk
      rw [hC, List.getElem?_eq_getElem (by omega), Option.bind_eq_some_iff] at h1
      obtain ⟨cs, hc1, hc2⟩ := h1
      obtain ⟨hb', hln, hcell⟩ := World.cells?_some hc1
      match cs, hln with
      | [c0], _ =>
        have d0 := hcell 0 (by omega)
        obtain ⟨z, e, _, _⟩ := DataW.trod_int Try.underlying3 hc2
        simp at e
        subst e
        exact ⟨z, d0⟩
    have hsp : 0 < n → a.spot = none := fun h0 => by
      obtain ⟨z, hz⟩ := each 0 h0
      exact (spot_none hz : _)
    refine ⟨some a, n, cap, hcs, Nat.le_trans hl hm, ⟨fun h0 => ?_, fun h0 => ?_, fun k hk => ?_⟩⟩
    · have := hsp h0
      obtain ⟨b, o, s⟩ := a
      simp only at this
      subst this
      rfl
    · obtain ⟨z, hz⟩ := each 0 h0
      exact block_lt hz
    · have := hsp (by omega)
      obtain ⟨z, hz⟩ := each k hk
      obtain ⟨b, o, s⟩ := a
      simp only at this
      subst this
      have hz' : w.cell? ⟨b, o + k, none⟩ = some (.int .i64 z) := by simpa only [add_mk, Nat.add_zero, Nat.mul_one] using hz
      simp only [numsAt, blk, ofs, hz', intC]
set_option maxRecDepth 10000 in
set_option maxHeartbeats 1000000 in
theorem open_frms {H : Type} {enc : TypeId × Value → H} {w : World} {base : Nat} {sp : Nat → Bool} {held : Bool} {fuel : Nat} {v : Value} {x : DataW H × List MemPlace}
    (h : DataW.trod enc Try.prog w base sp held fuel 40 [v] = some x) :
    ∃ (a : Option Addr) (m cap : Nat), v = .slice a m cap ∧ m ≤ maxLen ∧ (∀ i, i < m → (frmAt w (blk a) (ofs a) i).nv ≤ maxLen ∧ (frmAt w (blk a) (ofs a) i).nc ≤ maxLen) ∧ FramesAt a (blk a) (ofs a) m (frmAt w (blk a) (ofs a)) (fspotAt w (blk a) (ofs a)) w := by
  have hC : Try.prog.cellsOf 97 = 4 := by kernel_rfl
  have hc1' : Try.prog.cellsOf 3 = 1 := by kernel_rfl
  have hc2' : Try.prog.cellsOf 55 = 1 := by kernel_rfl
  rcases DataW.trod_slice Try.underlying40 h with ⟨hcs, _⟩ | ⟨a, n, cap, elems, rest, m, _, hcs, _, hb, hl, hm, hlen, hel, _, _⟩
  · simp at hcs
    exact ⟨none, 0, 0, hcs, Nat.zero_le _, fun i hi => absurd hi (by omega), ⟨fun h => absurd h (by omega), fun h => absurd h (by omega), fun i hi => absurd hi (by omega), fun i hi => absurd hi (by omega), fun i hi => absurd hi (by omega), fun i hi => absurd hi (by omega), fun i hi => absurd hi (by omega), fun i hi => absurd hi (by omega)⟩⟩
  · simp at hcs
    have each : ∀ k, k < n → ∃ (z0 z1 : Int) (s : Option Addr) (l c : Nat) (s' : Option Addr) (l' c' : Nat), w.cell? ((a.add (k * 4)).add 0) = some (.int .i64 z0) ∧ w.cell? ((a.add (k * 4)).add 1) = some (.int .i64 z1) ∧ w.cell? ((a.add (k * 4)).add 2) = some (.slice s l c) ∧ w.cell? ((a.add (k * 4)).add 3) = some (.slice s' l' c') ∧ l ≤ maxLen ∧ l' ≤ maxLen ∧ IntsAt s (blk s) (ofs s) l (numsAt w (blk s) (ofs s)) w ∧ IntsAt s' (blk s') (ofs s') l' (numsAt w (blk s') (ofs s')) w := by
      intro k hk
      have h1 := hel k hk
      rw [hC, List.getElem?_eq_getElem (by omega), Option.bind_eq_some_iff] at h1
      obtain ⟨cs, hc1, hc2⟩ := h1
      obtain ⟨hb', hln, hcell⟩ := World.cells?_some hc1
      match cs, hln with
      | [c0, c1, c2, c3], _ =>
        have d0 := hcell 0 (by omega)
        have d1 := hcell 1 (by omega)
        have d2 := hcell 2 (by omega)
        have d3 := hcell 3 (by omega)
        obtain ⟨ys, q, _, _, _, hl', hf⟩ := Go.DataW.trod_struct Try.underlying97 hc2
        match ys, hl' with
        | [y0, y1, y2, y3], _ =>
          have hy0 := hf 0 _ rfl
          have hy1 := hf 1 _ rfl
          have hy2 := hf 2 _ rfl
          have hy3 := hf 3 _ rfl
          simp [hc1'] at hy0 hy1
          simp [hc2'] at hy2 hy3
          obtain ⟨z0, e0, _, _⟩ := DataW.trod_int Try.underlying3 hy0
          obtain ⟨z1, e1, _, _⟩ := DataW.trod_int Try.underlying3 hy1
          obtain ⟨s, l, c, e2, hml, hcd⟩ := open_nums hy2
          obtain ⟨s', l', c', e3, hml', hcd'⟩ := open_nums hy3
          simp at e0 e1
          subst e0 e1 e2 e3
          exact ⟨z0, z1, s, l, c, s', l', c', d0, d1, d2, d3, hml, hml', hcd, hcd'⟩
    have hsp : 0 < n → a.spot = none := fun h0 => by
      obtain ⟨z, _, _, _, _, _, _, _, hz, _⟩ := each 0 h0
      exact (spot_none hz : _)
    refine ⟨some a, n, cap, hcs, Nat.le_trans hl hm, fun i hi => ?_, ⟨fun h0 => ?_, fun h0 => ?_, fun i hi => ?_, fun i hi => ?_, fun i hi => ?_, fun i hi => ?_, fun i hi => ?_, fun i hi => ?_⟩⟩
    · have := hsp (by omega)
      obtain ⟨z0, z1, s, l, c, s', l', c', d0, d1, d2, d3, hml, hml', hcd, hcd'⟩ := each i hi
      obtain ⟨b, o, sq⟩ := a
      simp only at this
      subst this
      have d2' : w.cell? ⟨b, o + i * 4 + 2, none⟩ = some (.slice s l c) := by simpa only [add_mk, Nat.add_zero] using d2
      have d3' : w.cell? ⟨b, o + i * 4 + 3, none⟩ = some (.slice s' l' c') := by simpa only [add_mk, Nat.add_zero] using d3
      simp only [frmAt, blk, ofs, d2', d3', slN]
      exact ⟨hml, hml'⟩
    · have := hsp h0
      obtain ⟨b, o, s⟩ := a
      simp only at this
      subst this
      rfl
    · obtain ⟨z, _, _, _, _, _, _, _, hz, _⟩ := each 0 h0
      exact block_lt hz
    all_goals
      have := hsp (by omega)
      obtain ⟨z0, z1, s, l, c, s', l', c', d0, d1, d2, d3, hml, hml', hcd, hcd'⟩ := each i hi
      obtain ⟨b, o, sq⟩ := a
      simp only at this
      subst this
      have d0' : w.cell? ⟨b, o + i * 4, none⟩ = some (.int .i64 z0) := by simpa only [add_mk, Nat.add_zero] using d0
      have d1' : w.cell? ⟨b, o + i * 4 + 1, none⟩ = some (.int .i64 z1) := by simpa only [add_mk, Nat.add_zero] using d1
      have d2' : w.cell? ⟨b, o + i * 4 + 2, none⟩ = some (.slice s l c) := by simpa only [add_mk, Nat.add_zero] using d2
      have d3' : w.cell? ⟨b, o + i * 4 + 3, none⟩ = some (.slice s' l' c') := by simpa only [add_mk, Nat.add_zero] using d3
      first
        | (simp only [frmAt, blk, ofs, d0', intC]; done)
        | (simp only [frmAt, blk, ofs, d1', intC]; done)
        | (simp only [frmAt, fspotAt, blk, ofs, d2', slN, slA, slC]; done)
        | (simp only [frmAt, fspotAt, blk, ofs, d3', slN, slA, slC]; done)
        | (simp only [frmAt, fspotAt, blk, ofs, d2', slN, slA, slC]; exact hcd)
        | (simp only [frmAt, fspotAt, blk, ofs, d3', slN, slA, slC]; exact hcd')
set_option maxRecDepth 10000 in
theorem open_run {H : Type} {enc : TypeId × Value → H} {w : World} {base : Nat} {sp : Nat → Bool} {held : Bool} {r : Reach} {b0 : Nat} {v : Value} {d : DataW H} {ps : List MemPlace}
    (hv : Value.okWide Try.prog w r b0 42 v) (h : DataW.Trod enc Try.prog w base sp held 42 v d ps) :
    ∃ (st out pr pc : Int) (a : Option Addr) (m cap : Nat), v = .agg #[.int .i64 st, .slice a m cap, .int .i64 out, .int .i64 pr, .int .i64 pc] ∧ (Lit.int .i64 st).wf = true ∧ (Lit.int .i64 out).wf = true ∧ (Lit.int .i64 pr).wf = true ∧ (Lit.int .i64 pc).wf = true ∧ m ≤ maxLen ∧ (∀ i, i < m → (frmAt w (blk a) (ofs a) i).nv ≤ maxLen ∧ (frmAt w (blk a) (ofs a) i).nc ≤ maxLen) ∧ FramesAt a (blk a) (ofs a) m (frmAt w (blk a) (ofs a)) (fspotAt w (blk a) (ofs a)) w := by
  have hC : Try.prog.cellsOf 42 = 5 := by kernel_rfl
  have hc1' : Try.prog.cellsOf 3 = 1 := by kernel_rfl
  have hc2' : Try.prog.cellsOf 40 = 1 := by kernel_rfl
  obtain ⟨cs, rfl, hsz⟩ := okWide_struct Try.underlying42 hv
  obtain ⟨c0, c1, c2, c3, c4, rfl⟩ : ∃ c0 c1 c2 c3 c4, cs = #[c0, c1, c2, c3, c4] := by
    obtain ⟨l⟩ := cs
    have := hsz.trans hC
    match l, this with
    | [c0, c1, c2, c3, c4], _ => exact ⟨c0, c1, c2, c3, c4, rfl⟩
  obtain ⟨fuel, hf⟩ := h
  obtain ⟨ys, q, _, _, _, hl', hf'⟩ := Go.DataW.trod_struct Try.underlying42 hf
  match ys, hl' with
  | [y0, y1, y2, y3, y4], _ =>
    have hy0 := hf' 0 _ rfl
    have hy1 := hf' 1 _ rfl
    have hy2 := hf' 2 _ rfl
    have hy3 := hf' 3 _ rfl
    have hy4 := hf' 4 _ rfl
    simp [hc1', hc2', Value.cells] at hy0 hy1 hy2 hy3 hy4
    obtain ⟨z0, e0, _, s0⟩ := DataW.trod_int Try.underlying3 hy0
    obtain ⟨z2, e2, _, s2⟩ := DataW.trod_int Try.underlying3 hy2
    obtain ⟨z3, e3, _, s3⟩ := DataW.trod_int Try.underlying3 hy3
    obtain ⟨z4, e4, _, s4⟩ := DataW.trod_int Try.underlying3 hy4
    obtain ⟨a, m, cap, e1, h1, h2, h3⟩ := open_frms hy1
    simp at e0 e2 e3 e4
    subst e0 e1 e2 e3 e4
    exact ⟨z0, z2, z3, z4, a, m, cap, rfl, s0, s2, s3, s4, h1, h2, h3⟩
end Go.Proofs.Ytndedplmcjfgeaa
