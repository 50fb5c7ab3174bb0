/- Arrivals, the program's own: what a state tells, in an array of five bounds. No slice in them: eleven cells. · Programs copied, whole. · Lists of ints that a call was handed back: what the laws do with them (compare, mark, look whether the marks are held). -/
import Derived.Test.YtiehokibfdaleaaG9
import Derived.Test.YtiehokibfdaleaaG11
import Derived.Laws.IdiomCopy
import Derived.Laws.CopyRow
import Derived.Test.YtiehokibfdaleaaG8
import Derived.Test.YtiehokibfdaleaaG2
import Derived.Test.YtiehokibfdaleaaG1
import Derived.WalkKit
import Derived.ProofKit
import Derived.OpenShut
import Derived.Below
import Derived.Deep.QuietTactic
import Derived.BigQuiet
namespace Go.Proofs.Ytiehokibfdaleaa
open Go.ChangeShapes Go.WideShapes Go.ChangeAt Go.RowKit

theorem addr_mk (b o n : Nat) : Addr.add ⟨b, o, none⟩ n = ⟨b, o + n, none⟩ := by
  unfold Addr.add
  split
  · rename_i h; subst h; rfl
  · rfl
/-- A copy of elements of any size. -/
theorem run_copy_wide {P : Program} (w : World) (dT sT ty elem : TypeId) (b o dLen dCap : Nat) (a : Addr) (sLen sCap sz : Nat) (cs : List Value)
    (hu : P.underlying dT = some (.slice elem)) (hs : (P.info? elem).map (·.size) = some sz) (hn : cs.length = Nat.min sLen dLen * sz)
    (hsrc : ∀ j v, cs[j]? = some v → w.cell? (a.add j) = some v) (hc : ∀ j, j < cs.length → (w.cell? ⟨b, o + j, none⟩).isSome = true) (hf : ∀ j, j < cs.length → w.frozen? ⟨b, o + j, none⟩ = false) (h1 : ∀ v ∈ cs, v.oneCell' = true) :
    (Builtin.copy_ #[dT, sT] ty #[.slice (some ⟨b, o, none⟩) dLen dCap, .slice (some a) sLen sCap]).run P w = .ok (goInt (Nat.min sLen dLen)) (w.setCells b o cs) := by
  have hl := run_loadCells_list (P := P) w a cs hsrc
  have hst := run_storeCells_cells (P := P) b o cs 0 w (by simpa using hc) (by simpa using hf) h1
  cases hq : P.info? elem with
  | none => simp [hq] at hs
  | some i =>
    have hi : i.size = sz := by simpa [hq] using hs
    simp [Builtin.copy_, run_underlying hu, Builtin.lenOf, Builtin.firstCells, sizeOf, typeInfo, hq, hi, ← hn, hl, hst]
theorem run_copy_zero {P : Program} (w : World) (dT sT ty elem : TypeId) (d a : Option Addr) (dLen dCap sLen sCap sz : Nat) (hu : P.underlying dT = some (.slice elem)) (hs : (P.info? elem).map (·.size) = some sz) (hn : Nat.min sLen dLen = 0) :
    (Builtin.copy_ #[dT, sT] ty #[.slice d dLen dCap, .slice a sLen sCap]).run P w = .ok (goInt 0) w := by
  cases hq : P.info? elem with
  | none => simp [hq] at hs
  | some i =>
    have hl : ∀ (x : Addr), (loadCells x 0).run P w = .ok #[] w := fun x => by simpa using run_loadCells_list (P := P) w x [] (by simp)
    cases d <;> cases a <;> simp [Builtin.copy_, run_underlying hu, Builtin.lenOf, Builtin.firstCells, sizeOf, typeInfo, hq, hn, storeCells, hl]
def putL (vs : List Value) : Nat → List Value → List Value
  | _, [] => vs
  | o, v :: cs => putL (vs.set o v) (o + 1) cs
theorem HeldL.putCells {w : World} {L : List (Nat × List Value)} {B : Nat} (hB : w.heap.size ≤ B) (hne : ∀ e ∈ L, e.1 ≠ B) : ∀ (cs : List Value) (o : Nat) (vs : List Value) (W : World), HeldL w ((B, vs) :: L) W → o + cs.length ≤ vs.length → HeldL w ((B, putL vs o cs) :: L) (W.setCells B o cs)
  | [], _, _, _, h, _ => h
  | v :: cs, o, vs, W, h, hl => HeldL.putCells hB hne cs (o + 1) (vs.set o v) (W.setCell ⟨B, o, none⟩ v) (HeldL.putI hB hne h (by simp at hl; omega)) (by simp at hl ⊢; omega)
theorem own11c {W : World} {B : Nat} {u0 u1 u2 u3 u4 u5 u6 u7 u8 u9 u10 : Value} (k0 : W.cell? ⟨B, 0, none⟩ = some u0) (k1 : W.cell? ⟨B, 1, none⟩ = some u1) (k2 : W.cell? ⟨B, 2, none⟩ = some u2) (k3 : W.cell? ⟨B, 3, none⟩ = some u3) (k4 : W.cell? ⟨B, 4, none⟩ = some u4) (k5 : W.cell? ⟨B, 5, none⟩ = some u5) (k6 : W.cell? ⟨B, 6, none⟩ = some u6) (k7 : W.cell? ⟨B, 7, none⟩ = some u7) (k8 : W.cell? ⟨B, 8, none⟩ = some u8) (k9 : W.cell? ⟨B, 9, none⟩ = some u9) (k10 : W.cell? ⟨B, 10, none⟩ = some u10) :
    (∀ x0, (W.setCell ⟨B, 0, none⟩ x0).cell? ⟨B, 0, none⟩ = some x0) ∧ (∀ x0 x1, ((W.setCell ⟨B, 0, none⟩ x0).setCell ⟨B, 1, none⟩ x1).cell? ⟨B, 1, none⟩ = some x1) ∧ (∀ x0 x1 x2, (((W.setCell ⟨B, 0, none⟩ x0).setCell ⟨B, 1, none⟩ x1).setCell ⟨B, 2, none⟩ x2).cell? ⟨B, 2, none⟩ = some x2) ∧ (∀ x0 x1 x2 x3, ((((W.setCell ⟨B, 0, none⟩ x0).setCell ⟨B, 1, none⟩ x1).setCell ⟨B, 2, none⟩ x2).setCell ⟨B, 3, none⟩ x3).cell? ⟨B, 3, none⟩ = some x3) ∧ (∀ x0 x1 x2 x3 x4, (((((W.setCell ⟨B, 0, none⟩ x0).setCell ⟨B, 1, none⟩ x1).setCell ⟨B, 2, none⟩ x2).setCell ⟨B, 3, none⟩ x3).setCell ⟨B, 4, none⟩ x4).cell? ⟨B, 4, none⟩ = some x4) ∧ (∀ x0 x1 x2 x3 x4 x5, ((((((W.setCell ⟨B, 0, none⟩ x0).setCell ⟨B, 1, none⟩ x1).setCell ⟨B, 2, none⟩ x2).setCell ⟨B, 3, none⟩ x3).setCell ⟨B, 4, none⟩ x4).setCell ⟨B, 5, none⟩ x5).cell? ⟨B, 5, none⟩ = some x5) ∧ (∀ x0 x1 x2 x3 x4 x5 x6, (((((((W.setCell ⟨B, 0, none⟩ x0).setCell ⟨B, 1, none⟩ x1).setCell ⟨B, 2, none⟩ x2).setCell ⟨B, 3, none⟩ x3).setCell ⟨B, 4, none⟩ x4).setCell ⟨B, 5, none⟩ x5).setCell ⟨B, 6, none⟩ x6).cell? ⟨B, 6, none⟩ = some x6) ∧ (∀ x0 x1 x2 x3 x4 x5 x6 x7, ((((((((W.setCell ⟨B, 0, none⟩ x0).setCell ⟨B, 1, none⟩ x1).setCell ⟨B, 2, none⟩ x2).setCell ⟨B, 3, none⟩ x3).setCell ⟨B, 4, none⟩ x4).setCell ⟨B, 5, none⟩ x5).setCell ⟨B, 6, none⟩ x6).setCell ⟨B, 7, none⟩ x7).cell? ⟨B, 7, none⟩ = some x7) ∧ (∀ x0 x1 x2 x3 x4 x5 x6 x7 x8, (((((((((W.setCell ⟨B, 0, none⟩ x0).setCell ⟨B, 1, none⟩ x1).setCell ⟨B, 2, none⟩ x2).setCell ⟨B, 3, none⟩ x3).setCell ⟨B, 4, none⟩ x4).setCell ⟨B, 5, none⟩ x5).setCell ⟨B, 6, none⟩ x6).setCell ⟨B, 7, none⟩ x7).setCell ⟨B, 8, none⟩ x8).cell? ⟨B, 8, none⟩ = some x8) ∧ (∀ x0 x1 x2 x3 x4 x5 x6 x7 x8 x9, ((((((((((W.setCell ⟨B, 0, none⟩ x0).setCell ⟨B, 1, none⟩ x1).setCell ⟨B, 2, none⟩ x2).setCell ⟨B, 3, none⟩ x3).setCell ⟨B, 4, none⟩ x4).setCell ⟨B, 5, none⟩ x5).setCell ⟨B, 6, none⟩ x6).setCell ⟨B, 7, none⟩ x7).setCell ⟨B, 8, none⟩ x8).setCell ⟨B, 9, none⟩ x9).cell? ⟨B, 9, none⟩ = some x9) ∧ (∀ x0 x1 x2 x3 x4 x5 x6 x7 x8 x9 x10, (((((((((((W.setCell ⟨B, 0, none⟩ x0).setCell ⟨B, 1, none⟩ x1).setCell ⟨B, 2, none⟩ x2).setCell ⟨B, 3, none⟩ x3).setCell ⟨B, 4, none⟩ x4).setCell ⟨B, 5, none⟩ x5).setCell ⟨B, 6, none⟩ x6).setCell ⟨B, 7, none⟩ x7).setCell ⟨B, 8, none⟩ x8).setCell ⟨B, 9, none⟩ x9).setCell ⟨B, 10, none⟩ x10).cell? ⟨B, 10, none⟩ = some x10) := by
  refine ⟨?_, ?_, ?_, ?_, ?_, ?_, ?_, ?_, ?_, ?_, ?_⟩
  · intro x0
    refine World.cell?_setCell_same _ _ _ (u := u0) ?_
    exact k0
  · intro x0 x1
    refine World.cell?_setCell_same _ _ _ (u := u1) ?_
    rw [World.cell?_setCell_other _ _ _ _ (by simp)]
    exact k1
  · intro x0 x1 x2
    refine World.cell?_setCell_same _ _ _ (u := u2) ?_
    rw [World.cell?_setCell_other _ _ _ _ (by simp), World.cell?_setCell_other _ _ _ _ (by simp)]
    exact k2
  · intro x0 x1 x2 x3
    refine World.cell?_setCell_same _ _ _ (u := u3) ?_
    rw [World.cell?_setCell_other _ _ _ _ (by simp), World.cell?_setCell_other _ _ _ _ (by simp), World.cell?_setCell_other _ _ _ _ (by simp)]
    exact k3
  · intro x0 x1 x2 x3 x4
    refine World.cell?_setCell_same _ _ _ (u := u4) ?_
    rw [World.cell?_setCell_other _ _ _ _ (by simp), World.cell?_setCell_other _ _ _ _ (by simp), World.cell?_setCell_other _ _ _ _ (by simp), World.cell?_setCell_other _ _ _ _ (by simp)]
    exact k4
  · intro x0 x1 x2 x3 x4 x5
    refine World.cell?_setCell_same _ _ _ (u := u5) ?_
    rw [World.cell?_setCell_other _ _ _ _ (by simp), World.cell?_setCell_other _ _ _ _ (by simp), World.cell?_setCell_other _ _ _ _ (by simp), World.cell?_setCell_other _ _ _ _ (by simp), World.cell?_setCell_other _ _ _ _ (by simp)]
    exact k5
  · intro x0 x1 x2 x3 x4 x5 x6
    refine World.cell?_setCell_same _ _ _ (u := u6) ?_
    rw [World.cell?_setCell_other _ _ _ _ (by simp), World.cell?_setCell_other _ _ _ _ (by simp), World.cell?_setCell_other _ _ _ _ (by simp), World.cell?_setCell_other _ _ _ _ (by simp), World.cell?_setCell_other _ _ _ _ (by simp), World.cell?_setCell_other _ _ _ _ (by simp)]
    exact k6
  · intro x0 x1 x2 x3 x4 x5 x6 x7
    refine World.cell?_setCell_same _ _ _ (u := u7) ?_
    rw [World.cell?_setCell_other _ _ _ _ (by simp), World.cell?_setCell_other _ _ _ _ (by simp), World.cell?_setCell_other _ _ _ _ (by simp), World.cell?_setCell_other _ _ _ _ (by simp), World.cell?_setCell_other _ _ _ _ (by simp), World.cell?_setCell_other _ _ _ _ (by simp), World.cell?_setCell_other _ _ _ _ (by simp)]
    exact k7
  · intro x0 x1 x2 x3 x4 x5 x6 x7 x8
    refine World.cell?_setCell_same _ _ _ (u := u8) ?_
    rw [World.cell?_setCell_other _ _ _ _ (by simp), World.cell?_setCell_other _ _ _ _ (by simp), World.cell?_setCell_other _ _ _ _ (by simp), World.cell?_setCell_other _ _ _ _ (by simp), World.cell?_setCell_other _ _ _ _ (by simp), World.cell?_setCell_other _ _ _ _ (by simp), World.cell?_setCell_other _ _ _ _ (by simp), World.cell?_setCell_other _ _ _ _ (by simp)]
    exact k8
  · intro x0 x1 x2 x3 x4 x5 x6 x7 x8 x9
    refine World.cell?_setCell_same _ _ _ (u := u9) ?_
    rw [World.cell?_setCell_other _ _ _ _ (by simp), World.cell?_setCell_other _ _ _ _ (by simp), World.cell?_setCell_other _ _ _ _ (by simp), World.cell?_setCell_other _ _ _ _ (by simp), World.cell?_setCell_other _ _ _ _ (by simp), World.cell?_setCell_other _ _ _ _ (by simp), World.cell?_setCell_other _ _ _ _ (by simp), World.cell?_setCell_other _ _ _ _ (by simp), World.cell?_setCell_other _ _ _ _ (by simp)]
    exact k9
  · intro x0 x1 x2 x3 x4 x5 x6 x7 x8 x9 x10
    refine World.cell?_setCell_same _ _ _ (u := u10) ?_
    rw [World.cell?_setCell_other _ _ _ _ (by simp), World.cell?_setCell_other _ _ _ _ (by simp), World.cell?_setCell_other _ _ _ _ (by simp), World.cell?_setCell_other _ _ _ _ (by simp), World.cell?_setCell_other _ _ _ _ (by simp), World.cell?_setCell_other _ _ _ _ (by simp), World.cell?_setCell_other _ _ _ _ (by simp), World.cell?_setCell_other _ _ _ _ (by simp), World.cell?_setCell_other _ _ _ _ (by simp), World.cell?_setCell_other _ _ _ _ (by simp)]
    exact k10

/-- What an arrival of a state that is ok has: its variables' ends, and its cells'. -/
def arL (on : Bool) (lo : Nat → Int) (c : Int) : Nat → Int := fun k => match on with
  | false => 0
  | true => if k < 4 then lo k else c
/-- A region that copies once: what is held ahead of that, and behind it. -/
def Once (j : Nat) (w : World) (L0 L1 : List (Nat × List Value)) (L : Nat → Bool) (W : World) : Prop := (L j = false → HeldL w L0 W) ∧ (L j = true → HeldL w L1 W)
theorem Once.keep {j : Nat} {w : World} {L0 L1 : List (Nat × List Value)} {L : Nat → Bool} {W : World} (h : Once j w L0 L1 L W) {i : Nat} (hi : j ≠ i) : Once j w L0 L1 (upd L i true) W := by
  unfold Once; rw [upd_other _ _ hi]; exact h
theorem Once.done {j : Nat} {w : World} {L0 L1 : List (Nat × List Value)} {L : Nat → Bool} {W : World} (h : HeldL w L1 W) : Once j w L0 L1 (upd L j true) W := by
  unfold Once; rw [upd_same]; exact ⟨(fun e => by cases e), fun _ => h⟩
theorem Once.start {j : Nat} {w : World} {L0 L1 : List (Nat × List Value)} {W : World} (h : HeldL w L0 W) : Once j w L0 L1 (fun _ => false) W := ⟨fun _ => h, (fun e => by cases e)⟩
set_option maxRecDepth 10000 in
set_option maxHeartbeats 8000000 in
theorem arrivalF (a : Option Addr) (cap : Nat) (w : World) :
    Calls Try.prog 24 #[.agg #[.bool false, .slice a 0 cap, .int .i64 0, .int .i64 0]] w fun e w' => e = .returned (.agg #[.bool false, .int .i64 0, .int .i64 0, .int .i64 0, .int .i64 0, .int .i64 0, .int .i64 0, .int .i64 0, .int .i64 0, .int .i64 0, .int .i64 0]) ∧ Below w.heap.size w w' := by


  have H0 : HeldL w ((w.heap.size + 1 + 1, [Value.bool false, .int .i64 0, .int .i64 0, .int .i64 0, .int .i64 0, .int .i64 0, .int .i64 0, .int .i64 0, .int .i64 0, .int .i64 0, .int .i64 0]) :: [(w.heap.size + 1, [Value.bool false, .int .i64 0, .int .i64 0, .int .i64 0, .int .i64 0, .int .i64 0, .int .i64 0, .int .i64 0, .int .i64 0, .int .i64 0, .int .i64 0]), (w.heap.size, [Value.bool false, .slice a 0 cap, .int .i64 0, .int .i64 0])]) (((w.alloc (.cells #[.bool false, .slice a 0 cap, .int .i64 0, .int .i64 0] 27)).alloc (.cells #[.bool false, .int .i64 0, .int .i64 0, .int .i64 0, .int .i64 0, .int .i64 0, .int .i64 0, .int .i64 0, .int .i64 0, .int .i64 0, .int .i64 0] 49)).alloc (.cells #[.bool false, .int .i64 0, .int .i64 0, .int .i64 0, .int .i64 0, .int .i64 0, .int .i64 0, .int .i64 0, .int .i64 0, .int .i64 0, .int .i64 0] 49)) := by
    have e1 : w.heap.size + 1 = (w.alloc (.cells #[.bool false, .slice a 0 cap, .int .i64 0, .int .i64 0] 27)).heap.size := by simp
    have e2 : w.heap.size + 1 + 1 = ((w.alloc (.cells #[.bool false, .slice a 0 cap, .int .i64 0, .int .i64 0] 27)).alloc (.cells #[.bool false, .int .i64 0, .int .i64 0, .int .i64 0, .int .i64 0, .int .i64 0, .int .i64 0, .int .i64 0, .int .i64 0, .int .i64 0, .int .i64 0] 49)).heap.size := by simp
    rw [e2, e1]
    exact HeldL.newL (vs := [Value.bool false, .int .i64 0, .int .i64 0, .int .i64 0, .int .i64 0, .int .i64 0, .int .i64 0, .int .i64 0, .int .i64 0, .int .i64 0, .int .i64 0]) (HeldL.newL (vs := [Value.bool false, .int .i64 0, .int .i64 0, .int .i64 0, .int .i64 0, .int .i64 0, .int .i64 0, .int .i64 0, .int .i64 0, .int .i64 0, .int .i64 0]) (HeldL.newL (vs := [Value.bool false, .slice a 0 cap, .int .i64 0, .int .i64 0]) (HeldL.nil w)))
  have ne0 : ∀ e ∈ [(w.heap.size + 1, [Value.bool false, .int .i64 0, .int .i64 0, .int .i64 0, .int .i64 0, .int .i64 0, .int .i64 0, .int .i64 0, .int .i64 0, .int .i64 0, .int .i64 0]), (w.heap.size, [Value.bool false, .slice a 0 cap, .int .i64 0, .int .i64 0])], e.1 ≠ w.heap.size + 1 + 1 := by intro e he; simp at he; rcases he with rfl | rfl <;> dsimp only <;> omega
  have hS0 : Once 4 w ((w.heap.size + 1 + 1, [Value.bool false, .int .i64 0, .int .i64 0, .int .i64 0, .int .i64 0, .int .i64 0, .int .i64 0, .int .i64 0, .int .i64 0, .int .i64 0, .int .i64 0]) :: [(w.heap.size + 1, [Value.bool false, .int .i64 0, .int .i64 0, .int .i64 0, .int .i64 0, .int .i64 0, .int .i64 0, .int .i64 0, .int .i64 0, .int .i64 0, .int .i64 0]), (w.heap.size, [Value.bool false, .slice a 0 cap, .int .i64 0, .int .i64 0])]) ((w.heap.size + 1 + 1, [Value.bool false, .int .i64 0, .int .i64 0, .int .i64 0, .int .i64 0, .int .i64 0, .int .i64 0, .int .i64 0, .int .i64 0, .int .i64 0, .int .i64 0]) :: [(w.heap.size + 1, [Value.bool false, .int .i64 0, .int .i64 0, .int .i64 0, .int .i64 0, .int .i64 0, .int .i64 0, .int .i64 0, .int .i64 0, .int .i64 0, .int .i64 0]), (w.heap.size, [Value.bool false, .slice a 0 cap, .int .i64 0, .int .i64 0])]) (fun _ => false) (((w.alloc (.cells #[.bool false, .slice a 0 cap, .int .i64 0, .int .i64 0] 27)).alloc (.cells #[.bool false, .int .i64 0, .int .i64 0, .int .i64 0, .int .i64 0, .int .i64 0, .int .i64 0, .int .i64 0, .int .i64 0, .int .i64 0, .int .i64 0] 49)).alloc (.cells #[.bool false, .int .i64 0, .int .i64 0, .int .i64 0, .int .i64 0, .int .i64 0, .int .i64 0, .int .i64 0, .int .i64 0, .int .i64 0, .int .i64 0] 49)).drew := Once.start H0.drew
  clear H0
  go_enter Try.func24, Try.ntmps24
  go_wp2_with fail
  refine region_inv3 [(0, 7), (1, 8), (2, 9), (3, 10), (4, 11)]
    (fun j v _ => match j with
      | 0 => Is (.pointer (some ⟨w.heap.size + 1 + 1, 1, none⟩)) v
      | 1 => Is (.slice (some ⟨w.heap.size + 1 + 1, 1, none⟩) 5 5) v
      | 2 => Is (.pointer (some ⟨w.heap.size, 1, none⟩)) v
      | 3 => Is (.slice a 0 cap) v
      | 4 => Is (.int .i64 0) v
      | _ => True)
    (fun L W => Once 4 w ((w.heap.size + 1 + 1, [Value.bool false, .int .i64 0, .int .i64 0, .int .i64 0, .int .i64 0, .int .i64 0, .int .i64 0, .int .i64 0, .int .i64 0, .int .i64 0, .int .i64 0]) :: [(w.heap.size + 1, [Value.bool false, .int .i64 0, .int .i64 0, .int .i64 0, .int .i64 0, .int .i64 0, .int .i64 0, .int .i64 0, .int .i64 0, .int .i64 0, .int .i64 0]), (w.heap.size, [Value.bool false, .slice a 0 cap, .int .i64 0, .int .i64 0])]) ((w.heap.size + 1 + 1, [Value.bool false, .int .i64 0, .int .i64 0, .int .i64 0, .int .i64 0, .int .i64 0, .int .i64 0, .int .i64 0, .int .i64 0, .int .i64 0, .int .i64 0]) :: [(w.heap.size + 1, [Value.bool false, .int .i64 0, .int .i64 0, .int .i64 0, .int .i64 0, .int .i64 0, .int .i64 0, .int .i64 0, .int .i64 0, .int .i64 0, .int .i64 0]), (w.heap.size, [Value.bool false, .slice a 0 cap, .int .i64 0, .int .i64 0])]) L W) TT
    (by kernel_rfl) (by kernel_rfl) (by kernel_rfl) (by kernel_rfl) (by kernel_rfl) rfl hS0 (fun i j v W W' _ h _ => h) ?_ ?_
  · intro i L vals W hi' hφ hS hL hd
    have hi2 : i < 5 := hi'
    clear hi' hS0
    rcases (show i = 0 ∨ i = 1 ∨ i = 2 ∨ i = 3 ∨ i = 4 by omega) with rfl | rfl | rfl | rfl | rfl
    · refine wpAt_of rfl rfl ?_
      simp only [frOf, Act.put]
      go_wp2_with fail
      first | exact ⟨trivial, rfl, trivial, hS.keep (by decide)⟩ | exact ⟨rfl, trivial, hS.keep (by decide)⟩
    · have k0 : vals 0 = .pointer (some ⟨w.heap.size + 1 + 1, 1, none⟩) := hφ 0 (hd 0 (by decide))
      refine wpAt_of rfl rfl ?_
      simp only [frOf, Act.put]
      go_wp2_with fail
      first | exact ⟨trivial, rfl, trivial, hS.keep (by decide)⟩ | exact ⟨rfl, trivial, hS.keep (by decide)⟩
    · refine wpAt_of rfl rfl ?_
      simp only [frOf, Act.put]
      go_wp2_with fail
      first | exact ⟨trivial, rfl, trivial, hS.keep (by decide)⟩ | exact ⟨rfl, trivial, hS.keep (by decide)⟩
    · have k2 : vals 2 = .pointer (some ⟨w.heap.size, 1, none⟩) := hφ 2 (hd 2 (by decide))
      have c1 : W.cell? ⟨w.heap.size, 1, none⟩ = some (.slice a 0 cap) := by
        cases h4 : L 4
        · exact (hS.1 h4).cell (List.mem_cons_of_mem _ (List.mem_cons_of_mem _ List.mem_cons_self)) (i := 1) rfl
        · exact (hS.2 h4).cell (List.mem_cons_of_mem _ (List.mem_cons_of_mem _ List.mem_cons_self)) (i := 1) rfl
      refine wpAt_of rfl rfl ?_
      simp only [frOf, Act.put]
      go_wp2_with fail
      first | exact ⟨trivial, rfl, trivial, hS.keep (by decide)⟩ | exact ⟨rfl, trivial, hS.keep (by decide)⟩
    · have k1 : vals 1 = .slice (some ⟨w.heap.size + 1 + 1, 1, none⟩) 5 5 := hφ 1 (hd 1 (by decide))
      have k3 : vals 3 = .slice a 0 cap := hφ 3 (hd 3 (by decide))
      have h0 := hS.1 hL
      have hcp := fun ty => run_copy_zero (P := Try.prog) W 23 23 ty 25 (some ⟨w.heap.size + 1 + 1, 1, none⟩) a 5 5 0 cap 2 Try.underlying23 (by kernel_rfl) (by decide)
      refine wpAt_of rfl rfl ?_
      simp only [frOf, Act.put]
      go_wp2_with fail
      first | exact ⟨trivial, rfl, trivial, Once.done h0⟩ | exact ⟨rfl, trivial, Once.done h0⟩
  · intro L vals W hall hφ hS
    have k0 : vals 0 = .pointer (some ⟨w.heap.size + 1 + 1, 1, none⟩) := hφ 0 (by decide)
    have k1 : vals 1 = .slice (some ⟨w.heap.size + 1 + 1, 1, none⟩) 5 5 := hφ 1 (by decide)
    have k2 : vals 2 = .pointer (some ⟨w.heap.size, 1, none⟩) := hφ 2 (by decide)
    have k3 : vals 3 = .slice a 0 cap := hφ 3 (by decide)
    have k4 : vals 4 = .int .i64 0 := hφ 4 (by decide)
    have H := hS.2 (hall 4 (by decide))
    simp only [frOf, Act.put, List.setIfInBounds_toArray, List.set_cons_succ, List.set_cons_zero, k0, k1, k2, k3, k4]
    clear k0 k1 k2 k3 k4 hall hφ hS0 hS
    have c2 := H.cell (List.mem_cons_of_mem _ (List.mem_cons_of_mem _ List.mem_cons_self)) (i := 2) rfl
    have c3 := H.cell (List.mem_cons_of_mem _ (List.mem_cons_of_mem _ List.mem_cons_self)) (i := 3) rfl
    have x9 := H.cell List.mem_cons_self (i := 9) rfl
    have x10 := H.cell List.mem_cons_self (i := 10) rfl
    have f0 := H.free _ List.mem_cons_self
    have H2 := HeldL.putI (i := 10) (x := .int .i64 0) (by omega) ne0 (HeldL.putI (i := 9) (x := .int .i64 0) (by omega) ne0 H (by simp)) (by simp)
    simp only [List.set_cons_succ, List.set_cons_zero] at H2
    have o0 := H2.cell List.mem_cons_self (i := 0) rfl
    have o1 := H2.cell List.mem_cons_self (i := 1) rfl
    have o2 := H2.cell List.mem_cons_self (i := 2) rfl
    have o3 := H2.cell List.mem_cons_self (i := 3) rfl
    have o4 := H2.cell List.mem_cons_self (i := 4) rfl
    have o5 := H2.cell List.mem_cons_self (i := 5) rfl
    have o6 := H2.cell List.mem_cons_self (i := 6) rfl
    have o7 := H2.cell List.mem_cons_self (i := 7) rfl
    have o8 := H2.cell List.mem_cons_self (i := 8) rfl
    have o9 := H2.cell List.mem_cons_self (i := 9) rfl
    have o10 := H2.cell List.mem_cons_self (i := 10) rfl
    have r0 := H2.cell (List.mem_cons_of_mem _ List.mem_cons_self) (i := 0) rfl
    have r1 := H2.cell (List.mem_cons_of_mem _ List.mem_cons_self) (i := 1) rfl
    have r2 := H2.cell (List.mem_cons_of_mem _ List.mem_cons_self) (i := 2) rfl
    have r3 := H2.cell (List.mem_cons_of_mem _ List.mem_cons_self) (i := 3) rfl
    have r4 := H2.cell (List.mem_cons_of_mem _ List.mem_cons_self) (i := 4) rfl
    have r5 := H2.cell (List.mem_cons_of_mem _ List.mem_cons_self) (i := 5) rfl
    have r6 := H2.cell (List.mem_cons_of_mem _ List.mem_cons_self) (i := 6) rfl
    have r7 := H2.cell (List.mem_cons_of_mem _ List.mem_cons_self) (i := 7) rfl
    have r8 := H2.cell (List.mem_cons_of_mem _ List.mem_cons_self) (i := 8) rfl
    have r9 := H2.cell (List.mem_cons_of_mem _ List.mem_cons_self) (i := 9) rfl
    have r10 := H2.cell (List.mem_cons_of_mem _ List.mem_cons_self) (i := 10) rfl
    have fr := H2.free _ (List.mem_cons_of_mem _ List.mem_cons_self)
    have bE := H2.below
    dsimp only at c2 c3 x9 x10 f0 fr o0 r0 o1 r1 o2 r2 o3 r3 o4 r4 o5 r5 o6 r6 o7 r7 o8 r8 o9 r9 o10 r10
    obtain ⟨e0, e1, e2, e3, e4, e5, e6, e7, e8, e9, e10⟩ := own11c r0 r1 r2 r3 r4 r5 r6 r7 r8 r9 r10
    clear H H2
    go_wp2_with fail
    refine bodyPost_ret (v := .agg #[.bool false, .int .i64 0, .int .i64 0, .int .i64 0, .int .i64 0, .int .i64 0, .int .i64 0, .int .i64 0, .int .i64 0, .int .i64 0, .int .i64 0]) (by simp [results, Try.results24, go_sem, e0, e1, e2, e3, e4, e5, e6, e7, e8, e9, e10]) rfl ⟨rfl, ?_⟩
    exact setAll_below (g := w.heap.size + 1) (by omega) [Value.bool false, .int .i64 0, .int .i64 0, .int .i64 0, .int .i64 0, .int .i64 0, .int .i64 0, .int .i64 0, .int .i64 0, .int .i64 0, .int .i64 0] 0 _ bE
set_option maxRecDepth 10000 in
set_option maxHeartbeats 8000000 in
theorem arrivalT (a : Option Addr) (b off cap : Nat) (lo hi : Nat → Int) (c d : Int) (w : World) (hC : BndsAt a b off 4 lo hi w) :
    Calls Try.prog 24 #[.agg #[.bool true, .slice a 4 cap, .int .i64 c, .int .i64 d]] w fun e w' => e = .returned (.agg #[.bool true, .int .i64 (lo 0), .int .i64 (hi 0), .int .i64 (lo 1), .int .i64 (hi 1), .int .i64 (lo 2), .int .i64 (hi 2), .int .i64 (lo 3), .int .i64 (hi 3), .int .i64 c, .int .i64 d]) ∧ Below w.heap.size w w' := by
  have ea := hC.at_ (by omega)
  subst ea
  have H0 : HeldL w ((w.heap.size + 1 + 1, [Value.bool true, .int .i64 0, .int .i64 0, .int .i64 0, .int .i64 0, .int .i64 0, .int .i64 0, .int .i64 0, .int .i64 0, .int .i64 0, .int .i64 0]) :: [(w.heap.size + 1, [Value.bool false, .int .i64 0, .int .i64 0, .int .i64 0, .int .i64 0, .int .i64 0, .int .i64 0, .int .i64 0, .int .i64 0, .int .i64 0, .int .i64 0]), (w.heap.size, [Value.bool true, .slice (some ⟨b, off, none⟩) 4 cap, .int .i64 c, .int .i64 d])]) (((w.alloc (.cells #[.bool true, .slice (some ⟨b, off, none⟩) 4 cap, .int .i64 c, .int .i64 d] 27)).alloc (.cells #[.bool false, .int .i64 0, .int .i64 0, .int .i64 0, .int .i64 0, .int .i64 0, .int .i64 0, .int .i64 0, .int .i64 0, .int .i64 0, .int .i64 0] 49)).alloc (.cells #[.bool true, .int .i64 0, .int .i64 0, .int .i64 0, .int .i64 0, .int .i64 0, .int .i64 0, .int .i64 0, .int .i64 0, .int .i64 0, .int .i64 0] 49)) := by
    have e1 : w.heap.size + 1 = (w.alloc (.cells #[.bool true, .slice (some ⟨b, off, none⟩) 4 cap, .int .i64 c, .int .i64 d] 27)).heap.size := by simp
    have e2 : w.heap.size + 1 + 1 = ((w.alloc (.cells #[.bool true, .slice (some ⟨b, off, none⟩) 4 cap, .int .i64 c, .int .i64 d] 27)).alloc (.cells #[.bool false, .int .i64 0, .int .i64 0, .int .i64 0, .int .i64 0, .int .i64 0, .int .i64 0, .int .i64 0, .int .i64 0, .int .i64 0, .int .i64 0] 49)).heap.size := by simp
    rw [e2, e1]
    exact HeldL.newL (vs := [Value.bool true, .int .i64 0, .int .i64 0, .int .i64 0, .int .i64 0, .int .i64 0, .int .i64 0, .int .i64 0, .int .i64 0, .int .i64 0, .int .i64 0]) (HeldL.newL (vs := [Value.bool false, .int .i64 0, .int .i64 0, .int .i64 0, .int .i64 0, .int .i64 0, .int .i64 0, .int .i64 0, .int .i64 0, .int .i64 0, .int .i64 0]) (HeldL.newL (vs := [Value.bool true, .slice (some ⟨b, off, none⟩) 4 cap, .int .i64 c, .int .i64 d]) (HeldL.nil w)))
  have ne0 : ∀ e ∈ [(w.heap.size + 1, [Value.bool false, .int .i64 0, .int .i64 0, .int .i64 0, .int .i64 0, .int .i64 0, .int .i64 0, .int .i64 0, .int .i64 0, .int .i64 0, .int .i64 0]), (w.heap.size, [Value.bool true, .slice (some ⟨b, off, none⟩) 4 cap, .int .i64 c, .int .i64 d])], e.1 ≠ w.heap.size + 1 + 1 := by intro e he; simp at he; rcases he with rfl | rfl <;> dsimp only <;> omega
  have hS0 : Once 4 w ((w.heap.size + 1 + 1, [Value.bool true, .int .i64 0, .int .i64 0, .int .i64 0, .int .i64 0, .int .i64 0, .int .i64 0, .int .i64 0, .int .i64 0, .int .i64 0, .int .i64 0]) :: [(w.heap.size + 1, [Value.bool false, .int .i64 0, .int .i64 0, .int .i64 0, .int .i64 0, .int .i64 0, .int .i64 0, .int .i64 0, .int .i64 0, .int .i64 0, .int .i64 0]), (w.heap.size, [Value.bool true, .slice (some ⟨b, off, none⟩) 4 cap, .int .i64 c, .int .i64 d])]) ((w.heap.size + 1 + 1, [Value.bool true, .int .i64 (lo 0), .int .i64 (hi 0), .int .i64 (lo 1), .int .i64 (hi 1), .int .i64 (lo 2), .int .i64 (hi 2), .int .i64 (lo 3), .int .i64 (hi 3), .int .i64 0, .int .i64 0]) :: [(w.heap.size + 1, [Value.bool false, .int .i64 0, .int .i64 0, .int .i64 0, .int .i64 0, .int .i64 0, .int .i64 0, .int .i64 0, .int .i64 0, .int .i64 0, .int .i64 0]), (w.heap.size, [Value.bool true, .slice (some ⟨b, off, none⟩) 4 cap, .int .i64 c, .int .i64 d])]) (fun _ => false) (((w.alloc (.cells #[.bool true, .slice (some ⟨b, off, none⟩) 4 cap, .int .i64 c, .int .i64 d] 27)).alloc (.cells #[.bool false, .int .i64 0, .int .i64 0, .int .i64 0, .int .i64 0, .int .i64 0, .int .i64 0, .int .i64 0, .int .i64 0, .int .i64 0, .int .i64 0] 49)).alloc (.cells #[.bool true, .int .i64 0, .int .i64 0, .int .i64 0, .int .i64 0, .int .i64 0, .int .i64 0, .int .i64 0, .int .i64 0, .int .i64 0, .int .i64 0] 49)).drew := Once.start H0.drew
  clear H0
  go_enter Try.func24, Try.ntmps24
  go_wp2_with fail
  refine region_inv3 [(0, 7), (1, 8), (2, 9), (3, 10), (4, 11)]
    (fun j v _ => match j with
      | 0 => Is (.pointer (some ⟨w.heap.size + 1 + 1, 1, none⟩)) v
      | 1 => Is (.slice (some ⟨w.heap.size + 1 + 1, 1, none⟩) 5 5) v
      | 2 => Is (.pointer (some ⟨w.heap.size, 1, none⟩)) v
      | 3 => Is (.slice (some ⟨b, off, none⟩) 4 cap) v
      | 4 => Is (.int .i64 4) v
      | _ => True)
    (fun L W => Once 4 w ((w.heap.size + 1 + 1, [Value.bool true, .int .i64 0, .int .i64 0, .int .i64 0, .int .i64 0, .int .i64 0, .int .i64 0, .int .i64 0, .int .i64 0, .int .i64 0, .int .i64 0]) :: [(w.heap.size + 1, [Value.bool false, .int .i64 0, .int .i64 0, .int .i64 0, .int .i64 0, .int .i64 0, .int .i64 0, .int .i64 0, .int .i64 0, .int .i64 0, .int .i64 0]), (w.heap.size, [Value.bool true, .slice (some ⟨b, off, none⟩) 4 cap, .int .i64 c, .int .i64 d])]) ((w.heap.size + 1 + 1, [Value.bool true, .int .i64 (lo 0), .int .i64 (hi 0), .int .i64 (lo 1), .int .i64 (hi 1), .int .i64 (lo 2), .int .i64 (hi 2), .int .i64 (lo 3), .int .i64 (hi 3), .int .i64 0, .int .i64 0]) :: [(w.heap.size + 1, [Value.bool false, .int .i64 0, .int .i64 0, .int .i64 0, .int .i64 0, .int .i64 0, .int .i64 0, .int .i64 0, .int .i64 0, .int .i64 0, .int .i64 0]), (w.heap.size, [Value.bool true, .slice (some ⟨b, off, none⟩) 4 cap, .int .i64 c, .int .i64 d])]) L W) TT
    (by kernel_rfl) (by kernel_rfl) (by kernel_rfl) (by kernel_rfl) (by kernel_rfl) rfl hS0 (fun i j v W W' _ h _ => h) ?_ ?_
  · intro i L vals W hi' hφ hS hL hd
    have hi2 : i < 5 := hi'
    clear hi' hS0
    rcases (show i = 0 ∨ i = 1 ∨ i = 2 ∨ i = 3 ∨ i = 4 by omega) with rfl | rfl | rfl | rfl | rfl
    · refine wpAt_of rfl rfl ?_
      simp only [frOf, Act.put]
      go_wp2_with fail
      first | exact ⟨trivial, rfl, trivial, hS.keep (by decide)⟩ | exact ⟨rfl, trivial, hS.keep (by decide)⟩
    · have k0 : vals 0 = .pointer (some ⟨w.heap.size + 1 + 1, 1, none⟩) := hφ 0 (hd 0 (by decide))
      refine wpAt_of rfl rfl ?_
      simp only [frOf, Act.put]
      go_wp2_with fail
      first | exact ⟨trivial, rfl, trivial, hS.keep (by decide)⟩ | exact ⟨rfl, trivial, hS.keep (by decide)⟩
    · refine wpAt_of rfl rfl ?_
      simp only [frOf, Act.put]
      go_wp2_with fail
      first | exact ⟨trivial, rfl, trivial, hS.keep (by decide)⟩ | exact ⟨rfl, trivial, hS.keep (by decide)⟩
    · have k2 : vals 2 = .pointer (some ⟨w.heap.size, 1, none⟩) := hφ 2 (hd 2 (by decide))
      have c1 : W.cell? ⟨w.heap.size, 1, none⟩ = some (.slice (some ⟨b, off, none⟩) 4 cap) := by
        cases h4 : L 4
        · exact (hS.1 h4).cell (List.mem_cons_of_mem _ (List.mem_cons_of_mem _ List.mem_cons_self)) (i := 1) rfl
        · exact (hS.2 h4).cell (List.mem_cons_of_mem _ (List.mem_cons_of_mem _ List.mem_cons_self)) (i := 1) rfl
      refine wpAt_of rfl rfl ?_
      simp only [frOf, Act.put]
      go_wp2_with fail
      first | exact ⟨trivial, rfl, trivial, hS.keep (by decide)⟩ | exact ⟨rfl, trivial, hS.keep (by decide)⟩
    · have k1 : vals 1 = .slice (some ⟨w.heap.size + 1 + 1, 1, none⟩) 5 5 := hφ 1 (hd 1 (by decide))
      have k3 : vals 3 = .slice (some ⟨b, off, none⟩) 4 cap := hφ 3 (hd 3 (by decide))
      have h0 := hS.1 hL
      have hI := hC.next (HeldL.below h0)
      have s0 := hI.lo 0 (by omega)
      have s1 := hI.hi 0 (by omega)
      have s2 := hI.lo 1 (by omega)
      have s3 := hI.hi 1 (by omega)
      have s4 := hI.lo 2 (by omega)
      have s5 := hI.hi 2 (by omega)
      have s6 := hI.lo 3 (by omega)
      have s7 := hI.hi 3 (by omega)
      simp only [Nat.zero_mul, Nat.one_mul, Nat.reduceMul, Nat.add_assoc, Nat.reduceAdd, Nat.add_zero] at s0 s1 s2 s3 s4 s5 s6 s7
      have hcp := fun ty => run_copy_wide (P := Try.prog) W 23 23 ty 25 (w.heap.size + 1 + 1) 1 5 5 ⟨b, off, none⟩ 4 cap 2 [.int .i64 (lo 0), .int .i64 (hi 0), .int .i64 (lo 1), .int .i64 (hi 1), .int .i64 (lo 2), .int .i64 (hi 2), .int .i64 (lo 3), .int .i64 (hi 3)] Try.underlying23 (by kernel_rfl) rfl
        (fun j v hj => by
          rw [addr_mk]
          match j, hj with
          | 0, hj => simp at hj; subst hj; exact s0
          | 1, hj => simp at hj; subst hj; exact s1
          | 2, hj => simp at hj; subst hj; exact s2
          | 3, hj => simp at hj; subst hj; exact s3
          | 4, hj => simp at hj; subst hj; exact s4
          | 5, hj => simp at hj; subst hj; exact s5
          | 6, hj => simp at hj; subst hj; exact s6
          | 7, hj => simp at hj; subst hj; exact s7
          | j + 8, hj => simp at hj)
        (fun j hj => by
          have hj' : j < 8 := by simpa using hj
          obtain ⟨v, hv⟩ : ∃ v, [Value.bool true, .int .i64 0, .int .i64 0, .int .i64 0, .int .i64 0, .int .i64 0, .int .i64 0, .int .i64 0, .int .i64 0, .int .i64 0, .int .i64 0][1 + j]? = some v := ⟨_, List.getElem?_eq_getElem (by simp; omega)⟩
          rw [HeldL.cell h0 List.mem_cons_self hv]; rfl)
        (fun j _ => HeldL.free h0 _ List.mem_cons_self _) (by simp [Value.oneCell'])
      have e5 : Nat.min 4 5 = 4 := by decide
      rw [e5] at hcp
      have hfin := HeldL.putCells (by omega) ne0 [.int .i64 (lo 0), .int .i64 (hi 0), .int .i64 (lo 1), .int .i64 (hi 1), .int .i64 (lo 2), .int .i64 (hi 2), .int .i64 (lo 3), .int .i64 (hi 3)] 1 [Value.bool true, .int .i64 0, .int .i64 0, .int .i64 0, .int .i64 0, .int .i64 0, .int .i64 0, .int .i64 0, .int .i64 0, .int .i64 0, .int .i64 0] W h0 (by simp)
      simp only [putL, List.set_cons_succ, List.set_cons_zero] at hfin
      clear s0 s1 s2 s3 s4 s5 s6 s7 hI
      refine wpAt_of rfl rfl ?_
      simp only [frOf, Act.put]
      go_wp2_with fail
      first | exact ⟨trivial, rfl, trivial, Once.done hfin⟩ | exact ⟨rfl, trivial, Once.done hfin⟩
  · intro L vals W hall hφ hS
    have k0 : vals 0 = .pointer (some ⟨w.heap.size + 1 + 1, 1, none⟩) := hφ 0 (by decide)
    have k1 : vals 1 = .slice (some ⟨w.heap.size + 1 + 1, 1, none⟩) 5 5 := hφ 1 (by decide)
    have k2 : vals 2 = .pointer (some ⟨w.heap.size, 1, none⟩) := hφ 2 (by decide)
    have k3 : vals 3 = .slice (some ⟨b, off, none⟩) 4 cap := hφ 3 (by decide)
    have k4 : vals 4 = .int .i64 4 := hφ 4 (by decide)
    have H := hS.2 (hall 4 (by decide))
    simp only [frOf, Act.put, List.setIfInBounds_toArray, List.set_cons_succ, List.set_cons_zero, k0, k1, k2, k3, k4]
    clear k0 k1 k2 k3 k4 hall hφ hS0 hS
    have c2 := H.cell (List.mem_cons_of_mem _ (List.mem_cons_of_mem _ List.mem_cons_self)) (i := 2) rfl
    have c3 := H.cell (List.mem_cons_of_mem _ (List.mem_cons_of_mem _ List.mem_cons_self)) (i := 3) rfl
    have x9 := H.cell List.mem_cons_self (i := 9) rfl
    have x10 := H.cell List.mem_cons_self (i := 10) rfl
    have f0 := H.free _ List.mem_cons_self
    have H2 := HeldL.putI (i := 10) (x := .int .i64 d) (by omega) ne0 (HeldL.putI (i := 9) (x := .int .i64 c) (by omega) ne0 H (by simp)) (by simp)
    simp only [List.set_cons_succ, List.set_cons_zero] at H2
    have o0 := H2.cell List.mem_cons_self (i := 0) rfl
    have o1 := H2.cell List.mem_cons_self (i := 1) rfl
    have o2 := H2.cell List.mem_cons_self (i := 2) rfl
    have o3 := H2.cell List.mem_cons_self (i := 3) rfl
    have o4 := H2.cell List.mem_cons_self (i := 4) rfl
    have o5 := H2.cell List.mem_cons_self (i := 5) rfl
    have o6 := H2.cell List.mem_cons_self (i := 6) rfl
    have o7 := H2.cell List.mem_cons_self (i := 7) rfl
    have o8 := H2.cell List.mem_cons_self (i := 8) rfl
    have o9 := H2.cell List.mem_cons_self (i := 9) rfl
    have o10 := H2.cell List.mem_cons_self (i := 10) rfl
    have r0 := H2.cell (List.mem_cons_of_mem _ List.mem_cons_self) (i := 0) rfl
    have r1 := H2.cell (List.mem_cons_of_mem _ List.mem_cons_self) (i := 1) rfl
    have r2 := H2.cell (List.mem_cons_of_mem _ List.mem_cons_self) (i := 2) rfl
    have r3 := H2.cell (List.mem_cons_of_mem _ List.mem_cons_self) (i := 3) rfl
    have r4 := H2.cell (List.mem_cons_of_mem _ List.mem_cons_self) (i := 4) rfl
    have r5 := H2.cell (List.mem_cons_of_mem _ List.mem_cons_self) (i := 5) rfl
    have r6 := H2.cell (List.mem_cons_of_mem _ List.mem_cons_self) (i := 6) rfl
    have r7 := H2.cell (List.mem_cons_of_mem _ List.mem_cons_self) (i := 7) rfl
    have r8 := H2.cell (List.mem_cons_of_mem _ List.mem_cons_self) (i := 8) rfl
    have r9 := H2.cell (List.mem_cons_of_mem _ List.mem_cons_self) (i := 9) rfl
    have r10 := H2.cell (List.mem_cons_of_mem _ List.mem_cons_self) (i := 10) rfl
    have fr := H2.free _ (List.mem_cons_of_mem _ List.mem_cons_self)
    have bE := H2.below
    dsimp only at c2 c3 x9 x10 f0 fr o0 r0 o1 r1 o2 r2 o3 r3 o4 r4 o5 r5 o6 r6 o7 r7 o8 r8 o9 r9 o10 r10
    obtain ⟨e0, e1, e2, e3, e4, e5, e6, e7, e8, e9, e10⟩ := own11c r0 r1 r2 r3 r4 r5 r6 r7 r8 r9 r10
    clear H H2
    go_wp2_with fail
    refine bodyPost_ret (v := .agg #[.bool true, .int .i64 (lo 0), .int .i64 (hi 0), .int .i64 (lo 1), .int .i64 (hi 1), .int .i64 (lo 2), .int .i64 (hi 2), .int .i64 (lo 3), .int .i64 (hi 3), .int .i64 c, .int .i64 d]) (by simp [results, Try.results24, go_sem, e0, e1, e2, e3, e4, e5, e6, e7, e8, e9, e10]) rfl ⟨rfl, ?_⟩
    exact setAll_below (g := w.heap.size + 1) (by omega) [Value.bool true, .int .i64 (lo 0), .int .i64 (hi 0), .int .i64 (lo 1), .int .i64 (hi 1), .int .i64 (lo 2), .int .i64 (hi 2), .int .i64 (lo 3), .int .i64 (hi 3), .int .i64 c, .int .i64 d] 0 _ bE
theorem cellAt_lo (on : Bool) (l h : Nat → Int) {k : Nat} (hk : k < 5) : ([Value.bool on, .int .i64 (l 0), .int .i64 (h 0), .int .i64 (l 1), .int .i64 (h 1), .int .i64 (l 2), .int .i64 (h 2), .int .i64 (l 3), .int .i64 (h 3), .int .i64 (l 4), .int .i64 (h 4)] : List Value)[1 + k * 2]? = some (.int .i64 (l k)) := by
  rcases (show k = 0 ∨ k = 1 ∨ k = 2 ∨ k = 3 ∨ k = 4 by omega) with rfl | rfl | rfl | rfl | rfl <;> rfl
theorem cellAt_hi (on : Bool) (l h : Nat → Int) {k : Nat} (hk : k < 5) : ([Value.bool on, .int .i64 (l 0), .int .i64 (h 0), .int .i64 (l 1), .int .i64 (h 1), .int .i64 (l 2), .int .i64 (h 2), .int .i64 (l 3), .int .i64 (h 3), .int .i64 (l 4), .int .i64 (h 4)] : List Value)[1 + k * 2 + 1]? = some (.int .i64 (h k)) := by
  rcases (show k = 0 ∨ k = 1 ∨ k = 2 ∨ k = 3 ∨ k = 4 by omega) with rfl | rfl | rfl | rfl | rfl <;> rfl
def arIn (on on' : Bool) (l h l' h' : Nat → Int) : Bool := match on, on' with
  | false, _ => true
  | true, false => false
  | true, true => inTo l h l' h' 5
set_option maxRecDepth 10000 in
set_option maxHeartbeats 8000000 in
theorem isInI (on on' : Bool) (l h l' h' : Nat → Int) (w : World) :
    Calls Try.prog 30 #[.agg #[.bool on, .int .i64 (l 0), .int .i64 (h 0), .int .i64 (l 1), .int .i64 (h 1), .int .i64 (l 2), .int .i64 (h 2), .int .i64 (l 3), .int .i64 (h 3), .int .i64 (l 4), .int .i64 (h 4)], .agg #[.bool on', .int .i64 (l' 0), .int .i64 (h' 0), .int .i64 (l' 1), .int .i64 (h' 1), .int .i64 (l' 2), .int .i64 (h' 2), .int .i64 (l' 3), .int .i64 (h' 3), .int .i64 (l' 4), .int .i64 (h' 4)]] w fun e w' => e = .returned (.bool (arIn on on' l h l' h')) ∧ Below w.heap.size w w' := by
  have H : HeldL w [(w.heap.size + 1, [Value.bool on', .int .i64 (l' 0), .int .i64 (h' 0), .int .i64 (l' 1), .int .i64 (h' 1), .int .i64 (l' 2), .int .i64 (h' 2), .int .i64 (l' 3), .int .i64 (h' 3), .int .i64 (l' 4), .int .i64 (h' 4)]), (w.heap.size, [Value.bool on, .int .i64 (l 0), .int .i64 (h 0), .int .i64 (l 1), .int .i64 (h 1), .int .i64 (l 2), .int .i64 (h 2), .int .i64 (l 3), .int .i64 (h 3), .int .i64 (l 4), .int .i64 (h 4)])] ((w.alloc (.cells #[.bool on, .int .i64 (l 0), .int .i64 (h 0), .int .i64 (l 1), .int .i64 (h 1), .int .i64 (l 2), .int .i64 (h 2), .int .i64 (l 3), .int .i64 (h 3), .int .i64 (l 4), .int .i64 (h 4)] 49)).alloc (.cells #[.bool on', .int .i64 (l' 0), .int .i64 (h' 0), .int .i64 (l' 1), .int .i64 (h' 1), .int .i64 (l' 2), .int .i64 (h' 2), .int .i64 (l' 3), .int .i64 (h' 3), .int .i64 (l' 4), .int .i64 (h' 4)] 49)) := by
    have e1 : w.heap.size + 1 = (w.alloc (.cells #[.bool on, .int .i64 (l 0), .int .i64 (h 0), .int .i64 (l 1), .int .i64 (h 1), .int .i64 (l 2), .int .i64 (h 2), .int .i64 (l 3), .int .i64 (h 3), .int .i64 (l 4), .int .i64 (h 4)] 49)).heap.size := by simp
    rw [e1]
    exact HeldL.newL (vs := [Value.bool on', .int .i64 (l' 0), .int .i64 (h' 0), .int .i64 (l' 1), .int .i64 (h' 1), .int .i64 (l' 2), .int .i64 (h' 2), .int .i64 (l' 3), .int .i64 (h' 3), .int .i64 (l' 4), .int .i64 (h' 4)]) (HeldL.newL (vs := [Value.bool on, .int .i64 (l 0), .int .i64 (h 0), .int .i64 (l 1), .int .i64 (h 1), .int .i64 (l 2), .int .i64 (h 2), .int .i64 (l 3), .int .i64 (h 3), .int .i64 (l 4), .int .i64 (h 4)]) (HeldL.nil w))
  obtain ⟨Lb, hLb⟩ : ∃ L, L = [(w.heap.size + 1, [Value.bool on', .int .i64 (l' 0), .int .i64 (h' 0), .int .i64 (l' 1), .int .i64 (h' 1), .int .i64 (l' 2), .int .i64 (h' 2), .int .i64 (l' 3), .int .i64 (h' 3), .int .i64 (l' 4), .int .i64 (h' 4)]), (w.heap.size, [Value.bool on, .int .i64 (l 0), .int .i64 (h 0), .int .i64 (l 1), .int .i64 (h 1), .int .i64 (l 2), .int .i64 (h 2), .int .i64 (l 3), .int .i64 (h 3), .int .i64 (l 4), .int .i64 (h 4)])] := ⟨_, rfl⟩
  have m0 : (w.heap.size, [Value.bool on, .int .i64 (l 0), .int .i64 (h 0), .int .i64 (l 1), .int .i64 (h 1), .int .i64 (l 2), .int .i64 (h 2), .int .i64 (l 3), .int .i64 (h 3), .int .i64 (l 4), .int .i64 (h 4)]) ∈ Lb := by rw [hLb]; simp
  have m1 : (w.heap.size + 1, [Value.bool on', .int .i64 (l' 0), .int .i64 (h' 0), .int .i64 (l' 1), .int .i64 (h' 1), .int .i64 (l' 2), .int .i64 (h' 2), .int .i64 (l' 3), .int .i64 (h' 3), .int .i64 (l' 4), .int .i64 (h' 4)]) ∈ Lb := by rw [hLb]; simp
  rw [← hLb] at H
  clear hLb
  cases on
  · go_enter Try.func30, Try.ntmps30
    go_wp2_with fail
    go_ret
    exact ⟨ret_bool (by cases on' <;> rfl), H.below⟩
  cases on'
  · go_enter Try.func30, Try.ntmps30
    go_wp2_with fail
    go_ret
    exact ⟨rfl, H.below⟩
  go_enter Try.func30, Try.ntmps30
  go_wp2_with fail
  go_loopw [17] (fun i wr => ∃ k : Nat, k ≤ 5 ∧ i = .int .i64 k ∧ Hid (inTo l h l' h' k = true) ∧ HeldL w Lb wr) (fun i _ => 5 - (intOf i).toNat)
  case atStart => exact ⟨0, Nat.zero_le _, rfl, (rfl : _ = _), H⟩
  case round =>
    clear H
    obtain ⟨k, hk, rfl, hO, H⟩ := hrel
    by_cases hlt : k < 5
    · have t1 : ((k : Int)).toNat = k := by omega
      have t2 : (0 : Int) ≤ (k : Int) := by omega
      have t3 : (k : Int) < 5 := by omega
      obtain ⟨q, hq'⟩ : ∃ q, itvIn (l k) (h k) (l' k) (h' k) = q := ⟨_, rfl⟩
      have hq : Hid (itvIn (l k) (h k) (l' k) (h' k) = q) := hq'
      clear hq'
      have hS0 : HX w wr Lb wr.drew := ⟨H.drew, (Below.refl _ wr).drew⟩
      clear H
      go_wp2_with fail
      refine region_inv3 [(0, 20), (1, 21), (2, 22), (3, 23), (4, 24), (5, 25), (6, 26), (7, 27), (8, 28), (9, 29)]
        (fun j v _ => match j with
          | 0 => Is (.int .i64 k) v
          | 1 => Is (.pointer (some ⟨w.heap.size, 1, none⟩)) v
          | 2 => Is (.pointer (some ⟨w.heap.size, 1 + k * 2, none⟩)) v
          | 3 => Is (.agg #[.int .i64 (l k), .int .i64 (h k)]) v
          | 4 => Is (.int .i64 k) v
          | 5 => Is (.pointer (some ⟨w.heap.size + 1, 1, none⟩)) v
          | 6 => Is (.pointer (some ⟨w.heap.size + 1, 1 + k * 2, none⟩)) v
          | 7 => Is (.agg #[.int .i64 (l' k), .int .i64 (h' k)]) v
          | 8 => Is (.bool q) v
          | 9 => Is (.bool !q) v
          | _ => True)
        (fun _ W => HX w wr Lb W) TT
        (by kernel_rfl) (by kernel_rfl) (by kernel_rfl) (by kernel_rfl) (by kernel_rfl) rfl hS0 (fun i j v W W' _ h _ => h) ?_ ?_
      · intro i L vals W hi' hφ hS hL hd
        have hi2 : i < 10 := hi'
        clear hi'
        rcases (show i = 0 ∨ i = 1 ∨ i = 2 ∨ i = 3 ∨ i = 4 ∨ i = 5 ∨ i = 6 ∨ i = 7 ∨ i = 8 ∨ i = 9 by omega) with rfl | rfl | rfl | rfl | rfl | rfl | rfl | rfl | rfl | rfl
        · refine wpAt_of rfl rfl ?_
          simp only [frOf, Act.put]
          go_wp2_with fail
          first | exact ⟨trivial, rfl, trivial, hS⟩ | exact ⟨rfl, trivial, hS⟩ | exact ⟨trivial, rfl, trivial⟩ | exact ⟨rfl, trivial⟩ | exact rfl
        · refine wpAt_of rfl rfl ?_
          simp only [frOf, Act.put]
          go_wp2_with fail
          first | exact ⟨trivial, rfl, trivial, hS⟩ | exact ⟨rfl, trivial, hS⟩ | exact ⟨trivial, rfl, trivial⟩ | exact ⟨rfl, trivial⟩ | exact rfl
        · have k0 : vals 0 = .int .i64 k := hφ 0 (hd 0 (by decide))
          have k1 : vals 1 = .pointer (some ⟨w.heap.size, 1, none⟩) := hφ 1 (hd 1 (by decide))
          refine wpAt_of rfl rfl ?_
          simp only [frOf, Act.put]
          go_wp2_with fail
          first | exact ⟨trivial, rfl, trivial, hS⟩ | exact ⟨rfl, trivial, hS⟩ | exact ⟨trivial, rfl, trivial⟩ | exact ⟨rfl, trivial⟩ | exact rfl
        · have k2 : vals 2 = .pointer (some ⟨w.heap.size, 1 + k * 2, none⟩) := hφ 2 (hd 2 (by decide))
          have d0 := hS.cell m0 (i := 1 + k * 2) (cellAt_lo true l h hlt)
          have d1 := hS.cell m0 (i := 1 + k * 2 + 1) (cellAt_hi true l h hlt)
          dsimp only at d0 d1
          refine wpAt_of rfl rfl ?_
          simp only [frOf, Act.put]
          go_wp2_with fail
          first | exact ⟨trivial, rfl, trivial, hS⟩ | exact ⟨rfl, trivial, hS⟩ | exact ⟨trivial, rfl, trivial⟩ | exact ⟨rfl, trivial⟩ | exact rfl
        · refine wpAt_of rfl rfl ?_
          simp only [frOf, Act.put]
          go_wp2_with fail
          first | exact ⟨trivial, rfl, trivial, hS⟩ | exact ⟨rfl, trivial, hS⟩ | exact ⟨trivial, rfl, trivial⟩ | exact ⟨rfl, trivial⟩ | exact rfl
        · refine wpAt_of rfl rfl ?_
          simp only [frOf, Act.put]
          go_wp2_with fail
          first | exact ⟨trivial, rfl, trivial, hS⟩ | exact ⟨rfl, trivial, hS⟩ | exact ⟨trivial, rfl, trivial⟩ | exact ⟨rfl, trivial⟩ | exact rfl
        · have k4 : vals 4 = .int .i64 k := hφ 4 (hd 4 (by decide))
          have k5 : vals 5 = .pointer (some ⟨w.heap.size + 1, 1, none⟩) := hφ 5 (hd 5 (by decide))
          refine wpAt_of rfl rfl ?_
          simp only [frOf, Act.put]
          go_wp2_with fail
          first | exact ⟨trivial, rfl, trivial, hS⟩ | exact ⟨rfl, trivial, hS⟩ | exact ⟨trivial, rfl, trivial⟩ | exact ⟨rfl, trivial⟩ | exact rfl
        · have k6 : vals 6 = .pointer (some ⟨w.heap.size + 1, 1 + k * 2, none⟩) := hφ 6 (hd 6 (by decide))
          have d0 := hS.cell m1 (i := 1 + k * 2) (cellAt_lo true l' h' hlt)
          have d1 := hS.cell m1 (i := 1 + k * 2 + 1) (cellAt_hi true l' h' hlt)
          dsimp only at d0 d1
          refine wpAt_of rfl rfl ?_
          simp only [frOf, Act.put]
          go_wp2_with fail
          first | exact ⟨trivial, rfl, trivial, hS⟩ | exact ⟨rfl, trivial, hS⟩ | exact ⟨trivial, rfl, trivial⟩ | exact ⟨rfl, trivial⟩ | exact rfl
        · have k3 : vals 3 = .agg #[.int .i64 (l k), .int .i64 (h k)] := hφ 3 (hd 3 (by decide))
          have k7 : vals 7 = .agg #[.int .i64 (l' k), .int .i64 (h' k)] := hφ 7 (hd 7 (by decide))
          refine wpAt_of rfl rfl ?_
          simp only [frOf, Act.put]
          go_wp2_with fail
          refine (itvInI _ _ _ _ _).mono ?_
          rintro e W' ⟨rfl, hb⟩
          rw [hq.out]
          go_wp2_with fail
          first | exact ⟨trivial, rfl, trivial, HX.next hb hS⟩ | exact ⟨rfl, trivial, HX.next hb hS⟩ | exact ⟨trivial, rfl, trivial⟩ | exact ⟨rfl, trivial⟩ | exact rfl
        · have k8 : vals 8 = .bool q := hφ 8 (hd 8 (by decide))
          refine wpAt_of rfl rfl ?_
          simp only [frOf, Act.put]
          go_wp2_with fail
          first | exact ⟨trivial, rfl, trivial, hS⟩ | exact ⟨rfl, trivial, hS⟩ | exact ⟨trivial, rfl, trivial⟩ | exact ⟨rfl, trivial⟩ | exact rfl
      · intro L vals W hall hφ hS
        have k0 : vals 0 = .int .i64 k := hφ 0 (by decide)
        have k1 : vals 1 = .pointer (some ⟨w.heap.size, 1, none⟩) := hφ 1 (by decide)
        have k2 : vals 2 = .pointer (some ⟨w.heap.size, 1 + k * 2, none⟩) := hφ 2 (by decide)
        have k3 : vals 3 = .agg #[.int .i64 (l k), .int .i64 (h k)] := hφ 3 (by decide)
        have k4 : vals 4 = .int .i64 k := hφ 4 (by decide)
        have k5 : vals 5 = .pointer (some ⟨w.heap.size + 1, 1, none⟩) := hφ 5 (by decide)
        have k6 : vals 6 = .pointer (some ⟨w.heap.size + 1, 1 + k * 2, none⟩) := hφ 6 (by decide)
        have k7 : vals 7 = .agg #[.int .i64 (l' k), .int .i64 (h' k)] := hφ 7 (by decide)
        have k8 : vals 8 = .bool q := hφ 8 (by decide)
        have k9 : vals 9 = .bool !q := hφ 9 (by decide)
        simp only [frOf, Act.put, List.setIfInBounds_toArray, List.set_cons_succ, List.set_cons_zero, k0, k1, k2, k3, k4, k5, k6, k7, k8, k9]
        clear k0 k1 k2 k3 k4 k5 k6 k7 k8 k9 hall hφ hS0
        have H := hS.1
        clear hS
        cases q
        · go_wp2_with fail
          go_ret
          exact ⟨ret_bool (by simp only [arIn]; rw [inTo_false hlt hq.out]), H.below⟩
        · go_wp2_with fail
          go_roundw
          case rel => exact ⟨k + 1, by omega, by go_num, (by simp only [inTo, hO.out, hq.out, Bool.and_self] : _ = _), H⟩
          case measure => simp [intOf]; omega
    · obtain rfl : k = 5 := by omega
      go_wp2_with fail
      go_ret
      exact ⟨ret_bool (by simp only [arIn]; rw [hO.out]), H.below⟩
end Go.Proofs.Ytiehokibfdaleaa
namespace Go.Proofs.Ytiehokibfdaleaa
open Go.ChangeShapes Go.WideShapes Go.ChangeAt Go.RowKit

theorem ProcsAt.set {a : Option Addr} {b off m : Nat} {P : Nat → Proc} {S : Nat → Spot} {W : World} {G o : Nat} {vs : List Value} (h : ProcsAt a b off m P S W) (hne : b ≠ G) (hs : ∀ i, i < m → (S i).b ≠ G) : ProcsAt a b off m P S (setAll G o vs W) :=
  have k : ∀ q, (setAll G o vs W).cell? ⟨b, q, none⟩ = W.cell? ⟨b, q, none⟩ := fun q => setAll_other _ _ _ _ (fun j' _ e => hne (by injection e))
  ⟨h.at_, fun hm => Nat.lt_of_lt_of_le (h.lt hm) (setAll_below (B := 0) (w := W) (Nat.zero_le _) vs o W (Below.refl _ _)).size, fun i hi => (k _).trans (h.lo i hi), fun i hi => (k _).trans (h.hi i hi), fun i hi => (k _).trans (h.code i hi), fun i hi => (h.steps i hi).set (hs i hi)⟩

/-- A copy: each procedure's steps lie in a block of their own, from its beginning on. -/
def Copy (S : Nat → Spot) (P : Nat → Proc) (m : Nat) : Prop := ∀ i, i < m → S i = ⟨some ⟨(S i).b, 0, none⟩, (S i).b, 0, (P i).n⟩
/-- What lies in the copy's list when k procedures are copied. -/
structure Part (w : World) (G m k : Nat) (P : Nat → Proc) (S : Nat → Spot) (W : World) : Prop where
  below : Below w.heap.size w W
  lt : G < W.heap.size
  lo : ∀ i, i < m → W.cell? ⟨G, i * 3, none⟩ = some (.int .i64 (if i < k then (P i).lo else 0))
  hi : ∀ i, i < m → W.cell? ⟨G, i * 3 + 1, none⟩ = some (.int .i64 (if i < k then (P i).hi else 0))
  code : ∀ i, i < m → W.cell? ⟨G, i * 3 + 2, none⟩ = some (if i < k then .slice (S i).a (P i).n (S i).cap else .slice none 0 0)
  free : ∀ i, W.frozen? ⟨G, i, none⟩ = false
  behind : ∀ i, i < k → G < (S i).b
  steps : ∀ i, i < k → CodeAt (S i).a (S i).b (S i).off (P i).n (P i).c W
  copy : Copy S P k
  fcode : ∀ i, i < k → ∀ j, W.frozen? ⟨(S i).b, j, none⟩ = false
  lcode : ∀ i, i < k → (S i).b < W.heap.size
theorem Part.next {w : World} {G m k : Nat} {P : Nat → Proc} {S : Nat → Spot} {W W' : World} (h : Part w G m k P S W) (hb : Below W.heap.size W W') : Part w G m k P S W' :=
  have q : ∀ o, W'.cell? ⟨G, o, none⟩ = W.cell? ⟨G, o, none⟩ := fun o => hb.cell (p := ⟨G, o, none⟩) h.lt
  ⟨below_tr h.below hb, Nat.lt_of_lt_of_le h.lt hb.size, fun i hi => (q _).trans (h.lo i hi), fun i hi => (q _).trans (h.hi i hi), fun i hi => (q _).trans (h.code i hi), fun i => (hb.frozen (p := ⟨G, i, none⟩) h.lt).trans (h.free i), h.behind, fun i hi => (h.steps i hi).next hb, h.copy, fun i hi j => (hb.frozen (p := ⟨(S i).b, j, none⟩) (h.lcode i hi)).trans (h.fcode i hi j), fun i hi => Nat.lt_of_lt_of_le (h.lcode i hi) hb.size⟩
/-- One procedure more. -/
theorem Part.put {w : World} {G m k : Nat} {P : Nat → Proc} {S : Nat → Spot} {W : World} {g : Nat} (hk : k < m) (hw : w.heap.size ≤ G) (h : Part w G m k P S W) (hg : G < g) (hC : CodeAt (some ⟨g, 0, none⟩) g 0 (P k).n (P k).c W) (hfg : ∀ j, W.frozen? ⟨g, j, none⟩ = false) (hlg : g < W.heap.size) :
    Part w G m (k + 1) P (fun i => if i = k then ⟨some ⟨g, 0, none⟩, g, 0, (P k).n⟩ else S i) (setAll G (k * 3) [.int .i64 (P k).lo, .int .i64 (P k).hi, .slice (some ⟨g, 0, none⟩) (P k).n (P k).n] W) := by
  have hsome : ∀ j, j < [(.int .i64 (P k).lo : Value), .int .i64 (P k).hi, .slice (some ⟨g, 0, none⟩) (P k).n (P k).n].length → (W.cell? ⟨G, k * 3 + j, none⟩).isSome = true := fun j hj => by
    rcases (show j = 0 ∨ j = 1 ∨ j = 2 by simp at hj; omega) with rfl | rfl | rfl
    · rw [Nat.add_zero, h.lo k hk]; rfl
    · rw [h.hi k hk]; rfl
    · rw [h.code k hk]; rfl
  have oth : ∀ i d, i ≠ k → d < 3 → (setAll G (k * 3) [.int .i64 (P k).lo, .int .i64 (P k).hi, .slice (some ⟨g, 0, none⟩) (P k).n (P k).n] W).cell? ⟨G, i * 3 + d, none⟩ = W.cell? ⟨G, i * 3 + d, none⟩ := fun i d hi hd => setAll_other _ _ _ _ (fun j hj e => by
    have hj' : j < 3 := by simpa using hj
    have : i * 3 + d = k * 3 + j := by injection e
    omega)
  refine ⟨setAll_below hw _ _ _ h.below, Nat.lt_of_lt_of_le h.lt (setAll_below (B := 0) (w := W) (Nat.zero_le _) _ _ W (Below.refl _ _)).size, fun i hi => ?_, fun i hi => ?_, fun i hi => ?_, fun i => (setAll_frozen _ _ _ _).trans (h.free i), fun i hi => ?_, fun i hi => ?_, fun i hi => ?_, fun i hi j => ?_, fun i hi => ?_⟩
  · by_cases hik : i = k
    · subst hik
      rw [if_pos (by omega)]
      exact setAll_at _ (i * 3) W 0 _ hsome rfl
    · have := oth i 0 hik (by omega)
      rw [Nat.add_zero] at this
      rw [this, h.lo i hi]
      by_cases h1 : i < k
      · rw [if_pos h1, if_pos (by omega)]
      · rw [if_neg h1, if_neg (by omega)]
  · by_cases hik : i = k
    · subst hik
      rw [if_pos (by omega)]
      exact setAll_at _ (i * 3) W 1 _ hsome rfl
    · rw [oth i 1 hik (by omega), h.hi i hi]
      by_cases h1 : i < k
      · rw [if_pos h1, if_pos (by omega)]
      · rw [if_neg h1, if_neg (by omega)]
  · by_cases hik : i = k
    · subst hik
      rw [if_pos (by omega), if_pos rfl]
      exact setAll_at _ (i * 3) W 2 _ hsome rfl
    · rw [oth i 2 hik (by omega), h.code i hi, if_neg hik]
      by_cases h1 : i < k
      · rw [if_pos h1, if_pos (by omega)]
      · rw [if_neg h1, if_neg (by omega)]
  · by_cases hik : i = k
    · rw [if_pos hik]; exact hg
    · rw [if_neg hik]; exact h.behind i (by omega)
  · by_cases hik : i = k
    · subst hik
      rw [if_pos rfl]
      exact hC.set (by omega)
    · rw [if_neg hik]
      exact (h.steps i (by omega)).set (by have := h.behind i (by omega); omega)
  · by_cases hik : i = k
    · subst hik
      simp only [if_true]
    · simp only [hik, if_false]
      exact h.copy i (by omega)
  · rw [setAll_frozen]
    by_cases hik : i = k
    · simp only [hik, if_true]; exact hfg j
    · simp only [hik, if_false]; exact h.fcode i (by omega) j
  · refine Nat.lt_of_lt_of_le ?_ (setAll_below (B := 0) (w := W) (Nat.zero_le _) _ _ W (Below.refl _ _)).size
    by_cases hik : i = k
    · simp only [hik, if_true]; exact hlg
    · simp only [hik, if_false]; exact h.lcode i (by omega)
/-- The copy's list lies in block g, its codes behind it; none of them is frozen. -/
structure Fresh (g m : Nat) (S : Nat → Spot) (W : World) : Prop where
  behind : ∀ i, i < m → g < (S i).b
  free : ∀ i, W.frozen? ⟨g, i, none⟩ = false
  fcode : ∀ i, i < m → ∀ j, W.frozen? ⟨(S i).b, j, none⟩ = false
  lt : g < W.heap.size
  lcode : ∀ i, i < m → (S i).b < W.heap.size
theorem Fresh.next {g m : Nat} {S : Nat → Spot} {W W' : World} (h : Fresh g m S W) (hb : Below W.heap.size W W') : Fresh g m S W' :=
  ⟨h.behind, fun i => (hb.frozen (p := ⟨g, i, none⟩) h.lt).trans (h.free i), fun i hi j => (hb.frozen (p := ⟨(S i).b, j, none⟩) (h.lcode i hi)).trans (h.fcode i hi j), Nat.lt_of_lt_of_le h.lt hb.size, fun i hi => Nat.lt_of_lt_of_le (h.lcode i hi) hb.size⟩
theorem Fresh.set {g m : Nat} {S : Nat → Spot} {W : World} (h : Fresh g m S W) (p : Addr) (v : Value) : Fresh g m S (W.setCell p v) :=
  ⟨h.behind, fun i => (World.frozen?_setCell ..).trans (h.free i), fun i hi j => (World.frozen?_setCell ..).trans (h.fcode i hi j), by simpa [World.setCell] using h.lt, fun i hi => by simpa [World.setCell] using h.lcode i hi⟩
theorem Part.fresh {w : World} {G m : Nat} {P : Nat → Proc} {S : Nat → Spot} {W : World} (h : Part w G m m P S W) : Fresh G m S W := ⟨h.behind, h.free, h.fcode, h.lt, h.lcode⟩
theorem Part.whole {w : World} {G m : Nat} {P : Nat → Proc} {S : Nat → Spot} {W : World} (h : Part w G m m P S W) : ProcsAt (some ⟨G, 0, none⟩) G 0 m P S W :=
  ⟨fun _ => rfl, fun _ => h.lt, fun i hi => by rw [Nat.zero_add, h.lo i hi, if_pos hi], fun i hi => by rw [Nat.zero_add, h.hi i hi, if_pos hi], fun i hi => by rw [Nat.zero_add, h.code i hi, if_pos hi], h.steps⟩

end Go.Proofs.Ytiehokibfdaleaa
namespace Go.Proofs.Ytiehokibfdaleaa
open Go.ChangeShapes Go.WideShapes Go.ChangeAt Go.RowKit

/-- v is the list zs; if there is anything in it, it lies in block g, at or behind B. -/
structure LstAt (B g : Nat) (a : Option Addr) (zs : List Int) (W : World) : Prop where
  at_ : 0 < zs.length → a = some ⟨g, 0, none⟩
  lo : 0 < zs.length → B ≤ g ∧ g < W.heap.size
  cell : ∀ j, j < zs.length → W.cell? ⟨g, j, none⟩ = some (.int .i64 (zs.getD j 0))
  free : 0 < zs.length → ∀ j, W.frozen? ⟨g, j, none⟩ = false
theorem LstAt.next {B g : Nat} {a : Option Addr} {zs : List Int} {W W' : World} (h : LstAt B g a zs W) (hb : Below W.heap.size W W') : LstAt B g a zs W' :=
  ⟨h.at_, fun hz => ⟨(h.lo hz).1, Nat.lt_of_lt_of_le (h.lo hz).2 hb.size⟩, fun j hj => (hb.cell (p := ⟨g, j, none⟩) (h.lo (by omega)).2).trans (h.cell j hj), fun hz j => (hb.frozen (p := ⟨g, j, none⟩) (h.lo hz).2).trans (h.free hz j)⟩

def marks (n : Nat) : List Int := (List.range n).map fun j : Nat => (j : Int) + 1
theorem marks_len (n : Nat) : (marks n).length = n := by simp [marks]
theorem marks_get {n j : Nat} (h : j < n) : (marks n).getD j 0 = (j : Int) + 1 := by simp [marks, h]

theorem LstAt.nextB {B C h : Nat} {b : Option Addr} {zs : List Int} {W W' : World} (k : LstAt C h b zs W) (hb : Below B W W') (hh : 0 < zs.length → h < B) : LstAt C h b zs W' :=
  ⟨k.at_, fun hz => ⟨(k.lo hz).1, Nat.lt_of_lt_of_le (k.lo hz).2 hb.size⟩, fun j hj => (hb.cell (p := ⟨h, j, none⟩) (hh (by omega))).trans (k.cell j hj), fun hz j => (hb.frozen (p := ⟨h, j, none⟩) (hh hz)).trans (k.free hz j)⟩

end Go.Proofs.Ytiehokibfdaleaa
