/- AbsJoin, the program's. -/
import Derived.Test.YtddcojeghdnhnaaDoorJoined
namespace Go.Proofs.YtddcojeghdnhnaaDoor
open Go.ChangeShapes Go.WideShapes Go.ChangeAt Go.RowKit
set_option linter.unusedVariables false

def onN (on : Bool) : Nat := match on with
  | false => 0
  | true => 4
def onF (on : Bool) (x : Int) : Int := match on with
  | false => 0
  | true => x
theorem arrivalX (on : Bool) (a : Option Addr) (b off n cap : Nat) (lo hi : Nat → Int) (c d : Int) (w : World) (hok : absOk on n lo hi c d = true) (hC : BndsAt a b off n lo hi w) :
    Calls Tryd.prog 18 #[.agg #[.bool on, .slice a n cap, .int .i64 c, .int .i64 d]] w fun e w' => e = .returned (.agg #[.bool on, .int .i64 ((arL on lo c) 0), .int .i64 ((arL on hi d) 0), .int .i64 ((arL on lo c) 1), .int .i64 ((arL on hi d) 1), .int .i64 ((arL on lo c) 2), .int .i64 ((arL on hi d) 2), .int .i64 ((arL on lo c) 3), .int .i64 ((arL on hi d) 3), .int .i64 ((arL on lo c) 4), .int .i64 ((arL on hi d) 4)]) ∧ Below w.heap.size w w' := by
  cases on
  · obtain ⟨rfl, rfl, rfl⟩ : n = 0 ∧ c = 0 ∧ d = 0 := by simp [absOk] at hok; exact hok
    exact arrivalF a cap w
  · obtain rfl : n = 4 := by simp [absOk] at hok; exact hok.1
    exact arrivalT a b off cap lo hi c d w hC
theorem stateX (on : Bool) (l h : Nat → Int) (w : World) :
    Calls Tryd.prog 21 #[.agg #[.bool on, .int .i64 (l 0), .int .i64 (h 0), .int .i64 (l 1), .int .i64 (h 1), .int .i64 (l 2), .int .i64 (h 2), .int .i64 (l 3), .int .i64 (h 3), .int .i64 (l 4), .int .i64 (h 4)]] w fun e w' => ∃ v, e = .returned v ∧ StIs w.heap.size on (onN on) l h (onF on (l 4)) (onF on (h 4)) v w' ∧ Below w.heap.size w w' := by
  cases on
  · refine (stateF l h w).mono ?_
    rintro e w' ⟨rfl, hb⟩
    exact ⟨_, rfl, ⟨none, 0, 0, rfl, BndsIs.nil0 _ _ _ _⟩, hb⟩
  · refine (stateT l h w).mono ?_
    rintro e w' ⟨g, c, rfl, hB, hb⟩
    exact ⟨_, rfl, ⟨some ⟨g, 0, none⟩, g, c, rfl, hB⟩, hb⟩
def JnS (w : World) (R N : Nat) (Lr : List (Nat × List Value)) (on : Bool) (n : Nat) (lo hi : Nat → Int) (c d : Int) (L : Nat → Bool) (W : World) : Prop :=
  (L 7 = false → HeldL w ((R, [Value.bool false, .slice none 0 0, .int .i64 0, .int .i64 0]) :: Lr) W) ∧ (L 7 = true → ∃ (ga : Option Addr) (g gc : Nat), HeldL w ((R, [Value.bool on, .slice ga n gc, .int .i64 c, .int .i64 d]) :: Lr) W ∧ BndsIs N n lo hi ga g W)
theorem JnS.next {w : World} {R N : Nat} {Lr : List (Nat × List Value)} {on : Bool} {n : Nat} {lo hi : Nat → Int} {c d : Int} {L : Nat → Bool} {W W' : World} (h : JnS w R N Lr on n lo hi c d L W) (hb : Below W.heap.size W W') : JnS w R N Lr on n lo hi c d L W' :=
  ⟨fun e => (h.1 e).next hb, fun e => by obtain ⟨ga, g, gc, h1, h2⟩ := h.2 e; exact ⟨ga, g, gc, h1.next hb, h2.next hb⟩⟩
theorem JnS.keep {w : World} {R N : Nat} {Lr : List (Nat × List Value)} {on : Bool} {n : Nat} {lo hi : Nat → Int} {c d : Int} {L : Nat → Bool} {W : World} (h : JnS w R N Lr on n lo hi c d L W) {i : Nat} (hi' : 7 ≠ i) : JnS w R N Lr on n lo hi c d (upd L i true) W := by
  unfold JnS; rw [upd_other _ _ hi']; exact h
theorem JnS.sub {w : World} {R N : Nat} {Lr : List (Nat × List Value)} {on : Bool} {n : Nat} {lo hi : Nat → Int} {c d : Int} {L : Nat → Bool} {W : World} (h : JnS w R N Lr on n lo hi c d L W) : HeldL w Lr W := by
  cases e : L 7
  · exact (h.1 e).sub (fun x hx => List.mem_cons_of_mem _ hx)
  · obtain ⟨ga, g, gc, h1, _⟩ := h.2 e
    exact h1.sub (fun x hx => List.mem_cons_of_mem _ hx)
theorem JnS.cell {w : World} {R N : Nat} {Lr : List (Nat × List Value)} {on : Bool} {n : Nat} {lo hi : Nat → Int} {c d : Int} {L : Nat → Bool} {W : World} (h : JnS w R N Lr on n lo hi c d L W) {e : Nat × List Value} (he : e ∈ Lr) {i : Nat} {v : Value} (hv : e.2[i]? = some v) : W.cell? ⟨e.1, i, none⟩ = some v := h.sub.cell he hv
theorem JnS.big {w : World} {R N : Nat} {Lr : List (Nat × List Value)} {on : Bool} {n : Nat} {lo hi : Nat → Int} {c d : Int} {L : Nat → Bool} {W : World} (h : JnS w R N Lr on n lo hi c d L W) : R < W.heap.size := by
  cases e : L 7
  · exact (h.1 e).size List.mem_cons_self
  · obtain ⟨ga, g, gc, h1, _⟩ := h.2 e
    exact h1.size List.mem_cons_self
theorem StIs.base {B C : Nat} {on : Bool} {n : Nat} {lo hi : Nat → Int} {c d : Int} {v : Value} {W : World} (h : StIs B on n lo hi c d v W) (hC : C ≤ B) : StIs C on n lo hi c d v W := by
  obtain ⟨a, g, cap, e, h1⟩ := h
  exact ⟨a, g, cap, e, h1.base hC⟩
/-- A list of two arrivals that the region makes. -/
def SlV (N : Nat) (vs : List Value) (v : Value) (W : World) : Prop := ∃ g : Nat, v = .slice (some ⟨g, 0, none⟩) 2 2 ∧ N ≤ g ∧ g < W.heap.size ∧ ∀ j u, vs[j]? = some u → W.cell? ⟨g, j, none⟩ = some u
theorem SlV.trn {N R i : Nat} {vs : List Value} {v : Value} {W W' : World} (h : SlV N vs v W) (hR : R < N) (t : Trn R i W W') : SlV N vs v W' := by
  obtain ⟨g, e, h1, h2, h3⟩ := h
  exact ⟨g, e, h1, Nat.lt_of_lt_of_le h2 t.1, fun j u hu => (t.2 ⟨g, j, none⟩ h2 (by dsimp only; omega)).1.trans (h3 j u hu)⟩
theorem StIs.trn {N R i : Nat} {on : Bool} {n : Nat} {lo hi : Nat → Int} {c d : Int} {v : Value} {W W' : World} (h : StIs N on n lo hi c d v W) (hR : R < N) (t : Trn R i W W') : StIs N on n lo hi c d v W' := by
  obtain ⟨a, g, cap, e, h1⟩ := h
  exact ⟨a, g, cap, e, h1.trn hR t⟩
end Go.Proofs.YtddcojeghdnhnaaDoor
