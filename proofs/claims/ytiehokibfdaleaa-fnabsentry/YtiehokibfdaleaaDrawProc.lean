/- A drawn procedure: its last step. -/
import Derived.Test.YtiehokibfdaleaaDrawCode
namespace Go.Proofs.Ytiehokibfdaleaa
open Go.ChangeShapes Go.WideShapes Go.ChangeAt Go.RowKit

theorem infoIns : (Try.prog.info? 81).map (fun i => (i.zero, i.size, i.bytes)) = some (some (.agg #[.int .i64 0, .int .i64 0, .int .i64 0, .int .i64 0, .int .i64 0, .int .i64 0, .int .i64 0, .int .i64 0]), 8, 64) := by kernel_rfl
theorem cells8 {W : World} {g : Nat} {xs : List Value} (h : ∀ j u, xs[j]? = some u → W.cell? ⟨g, j, none⟩ = some u) : ∀ j u, xs[j]? = some u → W.cell? ((⟨g, 0, none⟩ : Addr).add j) = some u := by
  intro j u hj
  have e : (⟨g, 0, none⟩ : Addr).add j = ⟨g, j, none⟩ := by
    cases j <;> simp [Addr.add]
  rw [e]
  exact h j u hj
theorem isI_one {x : Value} (h : IsI x) : x.oneCell' = true := by
  obtain ⟨n, rfl, _⟩ := h
  rfl

theorem all8 {P : Value → Prop} {y0 y1 y2 y3 y4 y5 y6 y7 : Value} (h0 : P y0) (h1 : P y1) (h2 : P y2) (h3 : P y3) (h4 : P y4) (h5 : P y5) (h6 : P y6) (h7 : P y7) : ∀ x ∈ [y0, y1, y2, y3, y4, y5, y6, y7], P x := by
  intro x hx
  simp only [List.mem_cons, List.not_mem_nil, or_false] at hx
  rcases hx with rfl | rfl | rfl | rfl | rfl | rfl | rfl | rfl <;> assumption
theorem own3c {W : World} {B : Nat} {u0 u1 u2 : Value} (k0 : W.cell? ⟨B, 0, none⟩ = some u0) (k1 : W.cell? ⟨B, 1, none⟩ = some u1) (k2 : W.cell? ⟨B, 2, none⟩ = some u2) :
    (∀ x0, (W.setCell ⟨B, 0, none⟩ x0).cell? ⟨B, 0, none⟩ = some x0) ∧ (∀ x0 x1, ((W.setCell ⟨B, 0, none⟩ x0).setCell ⟨B, 1, none⟩ x1).cell? ⟨B, 1, none⟩ = some x1) ∧ (∀ x0 x1 x2, (((W.setCell ⟨B, 0, none⟩ x0).setCell ⟨B, 1, none⟩ x1).setCell ⟨B, 2, none⟩ x2).cell? ⟨B, 2, none⟩ = some x2) :=
  ⟨fun _ => World.cell?_setCell_same _ _ _ k0, fun _ _ => World.cell?_setCell_same _ _ _ (u := u1) (by rw [World.cell?_setCell_other _ _ _ _ (by simp)]; exact k1), fun _ _ _ => World.cell?_setCell_same _ _ _ (u := u2) (by rw [World.cell?_setCell_other _ _ _ _ (by simp), World.cell?_setCell_other _ _ _ _ (by simp)]; exact k2)⟩
theorem setCell_grown {w W : World} {r : Option Nat} (h : w.grownBy W r) {p : Addr} (hp : w.heap.size ≤ p.block) (v : Value) : w.grownBy (W.setCell p v) r :=
  ⟨h.os, h.tape, h.output, by simpa [World.setCell] using h.size, fun k hk hne => (Below.heap_setCell W p v k (by omega)).trans (h.block k hk hne)⟩

set_option maxRecDepth 10000 in
set_option maxHeartbeats 8000000 in
theorem endD (N : Nat) (lo hi' : Int) (cv : Value) (k : Nat) (x0 x1 x2 x3 x4 x5 x6 x7 : Int) (w : World) (hk : k ≤ 1000) (hN : N ≤ w.heap.size) (hI : I64 x0 ∧ I64 x1 ∧ I64 x2 ∧ I64 x3 ∧ I64 x4 ∧ I64 x5 ∧ I64 x6 ∧ I64 x7) (hO : OwnI N 81 cv k w) :
    Calls Try.prog 55 #[.agg #[.int .i64 lo, .int .i64 hi', cv], .agg #[.int .i64 x0, .int .i64 x1, .int .i64 x2, .int .i64 x3, .int .i64 x4, .int .i64 x5, .int .i64 x6, .int .i64 x7]] w fun e w' => ∃ v, e = .returned (.agg #[.int .i64 lo, .int .i64 hi', v]) ∧ OwnI N 81 v (k + 1) w' ∧ w.grownBy w' cv.ownBlock := by
  obtain ⟨i0, hi, hz0, hz1, hz2⟩ := info_parts infoIns
  obtain ⟨xs, hown, hxs⟩ := hO
  have hob := World.ownsRow.lt hown
  have own4 := World.ownsRow.alloc (World.ownsRow.alloc (World.ownsRow.alloc (World.ownsRow.alloc hown (.cells #[.int .i64 lo, .int .i64 hi', cv] 41)) (.cells #[.int .i64 x0, .int .i64 x1, .int .i64 x2, .int .i64 x3, .int .i64 x4, .int .i64 x5, .int .i64 x6, .int .i64 x7] 81)) (.cells #[.int .i64 0, .int .i64 0, .slice none 0 0] 41)) (.cells #[.int .i64 x0, .int .i64 x1, .int .i64 x2, .int .i64 x3, .int .i64 x4, .int .i64 x5, .int .i64 x6, .int .i64 x7] 81)
  have g4 : w.grownBy ((((w.alloc (.cells #[.int .i64 lo, .int .i64 hi', cv] 41)).alloc (.cells #[.int .i64 x0, .int .i64 x1, .int .i64 x2, .int .i64 x3, .int .i64 x4, .int .i64 x5, .int .i64 x6, .int .i64 x7] 81)).alloc (.cells #[.int .i64 0, .int .i64 0, .slice none 0 0] 41)).alloc (.cells #[.int .i64 x0, .int .i64 x1, .int .i64 x2, .int .i64 x3, .int .i64 x4, .int .i64 x5, .int .i64 x6, .int .i64 x7] 81)) cv.ownBlock := grown_trans (grown_trans (grown_trans (World.grownBy_alloc _ _ _) (World.grownBy_alloc _ _ _)) (World.grownBy_alloc _ _ _)) (World.grownBy_alloc _ _ _)
  go_enter Try.func55, Try.ntmps55
  go_wp2_with (at_builtin; refine wpList_append_own _ rfl (.tmp 6) (.tmp 8) 39 rfl N 81 i0 (.agg #[.int .i64 0, .int .i64 0, .int .i64 0, .int .i64 0, .int .i64 0, .int .i64 0, .int .i64 0, .int .i64 0]) 8 64 Try.underlying39 hi hz0 hz1 hz2 rfl (by decide) _ _ _ rfl own4 ⟨w.heap.size + 1 + 1 + 1, 0, none⟩ 1 1 [.int .i64 x0, .int .i64 x1, .int .i64 x2, .int .i64 x3, .int .i64 x4, .int .i64 x5, .int .i64 x6, .int .i64 x7] rfl rfl (cells8 ?_) (by simp [Value.oneCell']) (by simp [maxLen]; omega) (by omega) (by simp; omega) ?_)
  · intro j u hj
    rcases (show j = 0 ∨ j = 1 ∨ j = 2 ∨ j = 3 ∨ j = 4 ∨ j = 5 ∨ j = 6 ∨ j = 7 ∨ 8 ≤ j by omega) with rfl | rfl | rfl | rfl | rfl | rfl | rfl | rfl | h8
    all_goals first | (simp at hj; subst hj; simp [go_sem]; done) | (rw [List.getElem?_eq_none (by simpa using h8)] at hj; cases hj)
  intro v1 w1 o1 g1 n1
  obtain ⟨gv, cpv, rfl⟩ : ∃ g cap, v1 = .slice (some ⟨g, 0, none⟩) (k + 1) cap := by
    rcases o1.2 with ⟨_, h⟩ | ⟨g, cap, _, h, _⟩
    · omega
    · exact ⟨g, cap, h⟩
  have hv : OwnI N 81 (.slice (some ⟨gv, 0, none⟩) (k + 1) cpv) (k + 1) w1 := by
    obtain ⟨q0, q1, q2, q3, q4, q5, q6, q7⟩ := hI
    refine ⟨_, o1, fun x hx => ?_⟩
    rcases List.mem_append.1 hx with hx | hx
    · exact hxs x hx
    · exact all8 ⟨_, rfl, q0⟩ ⟨_, rfl, q1⟩ ⟨_, rfl, q2⟩ ⟨_, rfl, q3⟩ ⟨_, rfl, q4⟩ ⟨_, rfl, q5⟩ ⟨_, rfl, q6⟩ ⟨_, rfl, q7⟩ x hx
  have ne : ∀ b, w.heap.size ≤ b → some b ≠ cv.ownBlock := fun b hb e => by have := (hob b e.symm).2; omega
  have b0 : w1.cell? ⟨w.heap.size, 0, none⟩ = some (.int .i64 lo) := g1.cell (by simp [go_sem]) (ne _ (by first | omega | (dsimp only; omega)))
  have b1 : w1.cell? ⟨w.heap.size, 1, none⟩ = some (.int .i64 hi') := g1.cell (by simp [go_sem]) (ne _ (by first | omega | (dsimp only; omega)))
  have b2 : w1.cell? ⟨w.heap.size, 2, none⟩ = some cv := g1.cell (by simp [go_sem]) (ne _ (by first | omega | (dsimp only; omega)))
  have r0 : w1.cell? ⟨w.heap.size + 1 + 1, 0, none⟩ = some (.int .i64 0) := g1.cell (by simp [go_sem]) (ne _ (by first | omega | (dsimp only; omega)))
  have r1 : w1.cell? ⟨w.heap.size + 1 + 1, 1, none⟩ = some (.int .i64 0) := g1.cell (by simp [go_sem]) (ne _ (by first | omega | (dsimp only; omega)))
  have r2 : w1.cell? ⟨w.heap.size + 1 + 1, 2, none⟩ = some (.slice none 0 0) := g1.cell (by simp [go_sem]) (ne _ (by first | omega | (dsimp only; omega)))
  have fb : ∀ j, w1.frozen? ⟨w.heap.size, j, none⟩ = false := fun j => (World.frozen?_of_block (a := ⟨w.heap.size, j, none⟩) (g1.block _ (by simp; omega) (ne _ (by first | omega | (dsimp only; omega))))).trans (by simp [go_sem])
  have fr : ∀ j, w1.frozen? ⟨w.heap.size + 1 + 1, j, none⟩ = false := fun j => (World.frozen?_of_block (a := ⟨w.heap.size + 1 + 1, j, none⟩) (g1.block _ (by simp) (ne _ (by first | omega | (dsimp only; omega))))).trans (by simp [go_sem])
  have nb : gv ≠ w.heap.size ∧ gv ≠ w.heap.size + 1 + 1 := by
    have T1 : Typ w.heap.size 41 w1 := Typ.keep (W := (((w.alloc (.cells #[.int .i64 lo, .int .i64 hi', cv] 41)).alloc (.cells #[.int .i64 x0, .int .i64 x1, .int .i64 x2, .int .i64 x3, .int .i64 x4, .int .i64 x5, .int .i64 x6, .int .i64 x7] 81)).alloc (.cells #[.int .i64 0, .int .i64 0, .slice none 0 0] 41)).alloc (.cells #[.int .i64 x0, .int .i64 x1, .int .i64 x2, .int .i64 x3, .int .i64 x4, .int .i64 x5, .int .i64 x6, .int .i64 x7] 81)) ⟨_, _, by
      rw [Below.heap_alloc _ _ _ (by simp; omega), Below.heap_alloc _ _ _ (by simp; omega), Below.heap_alloc _ _ _ (by simp), heap_alloc_new]⟩ (g1.block _ (by simp; omega) (ne _ (by first | omega | (dsimp only; omega))))
    have T2 : Typ (w.heap.size + 1 + 1) 41 w1 := Typ.keep (W := (((w.alloc (.cells #[.int .i64 lo, .int .i64 hi', cv] 41)).alloc (.cells #[.int .i64 x0, .int .i64 x1, .int .i64 x2, .int .i64 x3, .int .i64 x4, .int .i64 x5, .int .i64 x6, .int .i64 x7] 81)).alloc (.cells #[.int .i64 0, .int .i64 0, .slice none 0 0] 41)).alloc (.cells #[.int .i64 x0, .int .i64 x1, .int .i64 x2, .int .i64 x3, .int .i64 x4, .int .i64 x5, .int .i64 x6, .int .i64 x7] 81)) ⟨_, _, by
      have e : w.heap.size + 1 + 1 = ((w.alloc (.cells #[.int .i64 lo, .int .i64 hi', cv] 41)).alloc (.cells #[.int .i64 x0, .int .i64 x1, .int .i64 x2, .int .i64 x3, .int .i64 x4, .int .i64 x5, .int .i64 x6, .int .i64 x7] 81)).heap.size := by simp
      rw [e, Below.heap_alloc _ _ _ (by simp), heap_alloc_new]⟩ (g1.block _ (by simp) (ne _ (by first | omega | (dsimp only; omega))))
    exact ⟨fun e => T1.ne hv (by decide) (by rw [e]; rfl), fun e => T2.ne hv (by decide) (by rw [e]; rfl)⟩
  obtain ⟨e0, e1, e2⟩ := own3c (W := w1.setCell ⟨w.heap.size, 2, none⟩ (.slice (some ⟨gv, 0, none⟩) (k + 1) cpv)) (B := w.heap.size + 1 + 1) (by rw [World.cell?_setCell_other _ _ _ _ (by simp)]; exact r0) (by rw [World.cell?_setCell_other _ _ _ _ (by simp)]; exact r1) (by rw [World.cell?_setCell_other _ _ _ _ (by simp)]; exact r2)
  have gE := grown_trans g4 g1
  clear o1 g1 n1 g4 own4 hown hxs
  go_wp2_with fail
  refine bodyPost_ret (v := .agg #[.int .i64 lo, .int .i64 hi', .slice (some ⟨gv, 0, none⟩) (k + 1) cpv]) (by simp [results, Try.results55, go_sem, e0, e1, e2]) rfl ⟨_, rfl, ?_, ?_⟩
  · refine hv.keep fun g hg => ?_
    have hg' : gv = g := by simpa [Value.ownBlock] using hg
    have n1 : g ≠ w.heap.size := fun x => nb.1 (by rw [hg', x])
    have n2 : g ≠ w.heap.size + 1 + 1 := fun x => nb.2 (by rw [hg', x])
    rw [Below.heap_setCell _ _ _ _ n2, Below.heap_setCell _ _ _ _ n2, Below.heap_setCell _ _ _ _ n2, Below.heap_setCell _ _ _ _ n1]
  · exact setCell_grown (setCell_grown (setCell_grown (setCell_grown gE (by first | omega | (dsimp only; omega)) _) (by first | omega | (dsimp only; omega)) _) (by first | omega | (dsimp only; omega)) _) (by first | omega | (dsimp only; omega)) _
end Go.Proofs.Ytiehokibfdaleaa
