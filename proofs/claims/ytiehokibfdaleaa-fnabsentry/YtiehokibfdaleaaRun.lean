/- Runs in memory: a list of calls, each with two lists of ints. What the laws count of them. -/
import Derived.Test.YtiehokibfdaleaaPrg
import Derived.Test.YtiehokibfdaleaaHeld8
import Derived.WalkKit
import Derived.ProofKit
import Derived.OpenShut
import Derived.Below
namespace Go.Proofs.Ytiehokibfdaleaa
open Go.ChangeShapes Go.WideShapes Go.ChangeAt Go.RowKit

/-- A call: procedure, place, variables, cells. -/
structure Frm where
  proc : Int
  pc : Int
  nv : Nat
  v : Nat → Int
  nc : Nat
  c : Nat → Int
/-- Where a call's two lists lie. -/
structure FSpot where
  v : Spot
  c : Spot
/-- n ints lie at a, in block b from off on. -/
structure IntsAt (a : Option Addr) (b off n : Nat) (z : Nat → Int) (W : World) : Prop where
  at_ : 0 < n → a = some ⟨b, off, none⟩
  lt : 0 < n → b < W.heap.size
  cell : ∀ k, k < n → W.cell? ⟨b, off + k, none⟩ = some (.int .i64 (z k))
theorem IntsAt.next {a : Option Addr} {b off n : Nat} {z : Nat → Int} {W W' : World} (h : IntsAt a b off n z W) (hb : Below W.heap.size W W') : IntsAt a b off n z W' :=
  ⟨h.at_, fun hn => Nat.lt_of_lt_of_le (h.lt hn) hb.size, fun k hk => (hb.cell (p := ⟨b, off + k, none⟩) (h.lt (by omega))).trans (h.cell k hk)⟩
/-- m calls lie at a, in block b from off on. -/
structure FramesAt (a : Option Addr) (b off m : Nat) (F : Nat → Frm) (S : Nat → FSpot) (W : World) : Prop where
  at_ : 0 < m → a = some ⟨b, off, none⟩
  lt : 0 < m → b < W.heap.size
  proc : ∀ i, i < m → W.cell? ⟨b, off + i * 4, none⟩ = some (.int .i64 (F i).proc)
  pc : ∀ i, i < m → W.cell? ⟨b, off + i * 4 + 1, none⟩ = some (.int .i64 (F i).pc)
  vars : ∀ i, i < m → W.cell? ⟨b, off + i * 4 + 2, none⟩ = some (.slice (S i).v.a (F i).nv (S i).v.cap)
  cells : ∀ i, i < m → W.cell? ⟨b, off + i * 4 + 3, none⟩ = some (.slice (S i).c.a (F i).nc (S i).c.cap)
  vs : ∀ i, i < m → IntsAt (S i).v.a (S i).v.b (S i).v.off (F i).nv (F i).v W
  cs : ∀ i, i < m → IntsAt (S i).c.a (S i).c.b (S i).c.off (F i).nc (F i).c W
theorem FramesAt.next {a : Option Addr} {b off m : Nat} {F : Nat → Frm} {S : Nat → FSpot} {W W' : World} (h : FramesAt a b off m F S W) (hb : Below W.heap.size W W') : FramesAt a b off m F S W' :=
  have k : ∀ o, 0 < m → W'.cell? ⟨b, o, none⟩ = W.cell? ⟨b, o, none⟩ := fun o hm => hb.cell (p := ⟨b, o, none⟩) (h.lt hm)
  ⟨h.at_, fun hm => Nat.lt_of_lt_of_le (h.lt hm) hb.size, fun i hi => (k _ (by omega)).trans (h.proc i hi), fun i hi => (k _ (by omega)).trans (h.pc i hi), fun i hi => (k _ (by omega)).trans (h.vars i hi), fun i hi => (k _ (by omega)).trans (h.cells i hi), fun i hi => (h.vs i hi).next hb, fun i hi => (h.cs i hi).next hb⟩
/-- A cell of a held block turned. -/
theorem HeldL.putI {w W : World} {L : List (Nat × List Value)} {B i : Nat} {vs : List Value} {x : Value} (hB : w.heap.size ≤ B) (hne : ∀ e ∈ L, e.1 ≠ B) (h : HeldL w ((B, vs) :: L) W) (hi : i < vs.length) : HeldL w ((B, vs.set i x) :: L) (W.setCell ⟨B, i, none⟩ x) := by
  have m := List.mem_cons_self (a := (B, vs)) (l := L)
  have hh := (h.sub (L' := L) (fun e he => List.mem_cons_of_mem _ he)).setCell ⟨B, i, none⟩ x hB hne
  refine ⟨hh.below, fun e he => ?_, fun e he j => ?_⟩
  · rcases List.mem_cons.1 he with rfl | he
    · refine ⟨hB, by simpa [World.setCell] using h.size m, fun j v hv => ?_⟩
      by_cases hj : i = j
      · subst hj
        rw [List.getElem?_set_self hi] at hv
        injection hv with hv
        subst hv
        exact World.cell?_setCell_same _ _ _ (h.cell m (List.getElem?_eq_getElem hi))
      · rw [List.getElem?_set_ne hj] at hv
        rw [World.cell?_setCell_other _ _ _ _ (by intro e; injection e with _ e; exact hj (by first | exact e | exact e.symm))]
        exact h.cell m hv
    · exact hh.cells e he
  · rcases List.mem_cons.1 he with rfl | he
    · rw [World.frozen?_setCell]; exact h.free _ m j
    · exact hh.free e he j
/-- What the first calls have in all. -/
def frmTo (F : Nat → Frm) : Nat → Nat
  | 0 => 0
  | i + 1 => frmTo F i + ((F i).nv + (F i).nc)
theorem frmTo_le {F : Nat → Frm} {i m : Nat} (h : i < m) : (F i).nv ≤ frmTo F m ∧ (F i).nc ≤ frmTo F m := by
  induction m with
  | zero => omega
  | succ m ih =>
    rcases (show i < m ∨ i = m by omega) with h' | rfl
    · have := ih h'
      simp only [frmTo]; omega
    · simp only [frmTo]; omega
end Go.Proofs.Ytiehokibfdaleaa
