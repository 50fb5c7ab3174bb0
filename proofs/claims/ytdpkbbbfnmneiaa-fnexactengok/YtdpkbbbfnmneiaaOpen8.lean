/- A step that is handed in is eight ints, and leads to no memory. -/
import Derived.Test.YtdpkbbbfnmneiaaRows
import Derived.WalkKit
import Derived.ProofKit
import Derived.OpenShut
namespace Go.Proofs.Ytdpkbbbfnmneiaa
open Go.ChangeShapes Go.WideShapes Go.ChangeAt Go.RowKit
theorem array8 {α : Type} {cs : Array α} (h : cs.size = 8) : ∃ c0 c1 c2 c3 c4 c5 c6 c7, cs = #[c0, c1, c2, c3, c4, c5, c6, c7] := by
  obtain ⟨l⟩ := cs
  match l, h with
  | [c0, c1, c2, c3, c4, c5, c6, c7], _ => exact ⟨c0, c1, c2, c3, c4, c5, c6, c7, rfl⟩
theorem open_cells8 {H : Type} {enc : TypeId × Value → H} {w : World} {base : Nat} {sp : Nat → Bool} {held : Bool} {fuel : Nat} {c0 c1 c2 c3 c4 c5 c6 c7 : Value} {x : DataW H × List MemPlace}
    (h : DataW.trod enc Try.prog w base sp held fuel 64 [c0, c1, c2, c3, c4, c5, c6, c7] = some x) :
    ∃ z0 z1 z2 z3 z4 z5 z6 z7 : Int, c0 = .int .i64 z0 ∧ c1 = .int .i64 z1 ∧ c2 = .int .i64 z2 ∧ c3 = .int .i64 z3 ∧ c4 = .int .i64 z4 ∧ c5 = .int .i64 z5 ∧ c6 = .int .i64 z6 ∧ c7 = .int .i64 z7 ∧ x = (.agg [.lit (.int .i64 z0), .lit (.int .i64 z1), .lit (.int .i64 z2), .lit (.int .i64 z3), .lit (.int .i64 z4), .lit (.int .i64 z5), .lit (.int .i64 z6), .lit (.int .i64 z7)], []) ∧ (Lit.int .i64 z0).wf = true ∧ (Lit.int .i64 z1).wf = true ∧ (Lit.int .i64 z2).wf = true ∧ (Lit.int .i64 z3).wf = true ∧ (Lit.int .i64 z4).wf = true ∧ (Lit.int .i64 z5).wf = true ∧ (Lit.int .i64 z6).wf = true ∧ (Lit.int .i64 z7).wf = true := by
  have hc : Try.prog.cellsOf 3 = 1 := by kernel_rfl
  obtain ⟨ys, m, _, rfl, _, hl, hf⟩ := Go.DataW.trod_struct Try.underlying64 h
  match ys, hl with
  | [y0, y1, y2, y3, y4, y5, y6, y7], _ =>
    have hy0 := hf 0 _ rfl
    have hy1 := hf 1 _ rfl
    have hy2 := hf 2 _ rfl
    have hy3 := hf 3 _ rfl
    have hy4 := hf 4 _ rfl
    have hy5 := hf 5 _ rfl
    have hy6 := hf 6 _ rfl
    have hy7 := hf 7 _ rfl
    simp [hc] at hy0 hy1 hy2 hy3 hy4 hy5 hy6 hy7
    obtain ⟨z0, e0, rfl, s0⟩ := DataW.trod_int Try.underlying3 hy0
    obtain ⟨z1, e1, rfl, s1⟩ := DataW.trod_int Try.underlying3 hy1
    obtain ⟨z2, e2, rfl, s2⟩ := DataW.trod_int Try.underlying3 hy2
    obtain ⟨z3, e3, rfl, s3⟩ := DataW.trod_int Try.underlying3 hy3
    obtain ⟨z4, e4, rfl, s4⟩ := DataW.trod_int Try.underlying3 hy4
    obtain ⟨z5, e5, rfl, s5⟩ := DataW.trod_int Try.underlying3 hy5
    obtain ⟨z6, e6, rfl, s6⟩ := DataW.trod_int Try.underlying3 hy6
    obtain ⟨z7, e7, rfl, s7⟩ := DataW.trod_int Try.underlying3 hy7
    simp at e0 e1 e2 e3 e4 e5 e6 e7
    subst e0 e1 e2 e3 e4 e5 e6 e7
    exact ⟨z0, z1, z2, z3, z4, z5, z6, z7, rfl, rfl, rfl, rfl, rfl, rfl, rfl, rfl, by simp, s0, s1, s2, s3, s4, s5, s6, s7⟩
set_option maxRecDepth 10000 in
theorem open_ins {H : Type} {enc : TypeId × Value → H} {w : World} {base : Nat} {sp : Nat → Bool} {held : Bool} {r : Reach} {b0 : Nat} {v : Value} {d : DataW H} {ps : List MemPlace}
    (hv : Value.okWide Try.prog w r b0 64 v) (h : DataW.Trod enc Try.prog w base sp held 64 v d ps) :
    ∃ z0 z1 z2 z3 z4 z5 z6 z7 : Int, v = .agg #[.int .i64 z0, .int .i64 z1, .int .i64 z2, .int .i64 z3, .int .i64 z4, .int .i64 z5, .int .i64 z6, .int .i64 z7] ∧ d = .agg [.lit (.int .i64 z0), .lit (.int .i64 z1), .lit (.int .i64 z2), .lit (.int .i64 z3), .lit (.int .i64 z4), .lit (.int .i64 z5), .lit (.int .i64 z6), .lit (.int .i64 z7)] ∧ ps = [] ∧ (Lit.int .i64 z0).wf = true ∧ (Lit.int .i64 z1).wf = true ∧ (Lit.int .i64 z2).wf = true ∧ (Lit.int .i64 z3).wf = true ∧ (Lit.int .i64 z4).wf = true ∧ (Lit.int .i64 z5).wf = true ∧ (Lit.int .i64 z6).wf = true ∧ (Lit.int .i64 z7).wf = true := by
  have hC : Try.prog.cellsOf 64 = 8 := by kernel_rfl
  obtain ⟨cs, rfl, hsz⟩ := okWide_struct Try.underlying64 hv
  obtain ⟨c0, c1, c2, c3, c4, c5, c6, c7, rfl⟩ := array8 (hsz.trans hC)
  obtain ⟨fuel, hf⟩ := h
  obtain ⟨z0, z1, z2, z3, z4, z5, z6, z7, rfl, rfl, rfl, rfl, rfl, rfl, rfl, rfl, hx, s0, s1, s2, s3, s4, s5, s6, s7⟩ := open_cells8 (by simpa [Value.cells] using hf)
  simp only [Prod.mk.injEq] at hx
  exact ⟨z0, z1, z2, z3, z4, z5, z6, z7, rfl, hx.1, hx.2, s0, s1, s2, s3, s4, s5, s6, s7⟩
end Go.Proofs.Ytdpkbbbfnmneiaa
