/- Small blocks that a region makes, and one that it writes: what an invariant says of them. No program in it. · AbsFails, the model's: what is plainly asked, l7Given, l7Fit, each kind of step. · AbsFails, the program's: canStep, mayFail for each kind of step, the whole. -/
import Derived.Test.YtdpkbbbfnmneiaaExLaw
import Derived.Test.YtdpkbbbfnmneiaaPrgOkX
import Derived.Test.YtdpkbbbfnmneiaaAbsOk
import Derived.Test.YtdpkbbbfnmneiaaGiven
import Derived.Test.YtdpkbbbfnmneiaaItvNotM
import Derived.Test.YtdpkbbbfnmneiaaInsS5
import Derived.BigGuard
import Derived.Test.YtdpkbbbfnmneiaaAbsHas
import Derived.Test.YtdpkbbbfnmneiaaArr
import Derived.Test.YtdpkbbbfnmneiaaItvNotI
import Derived.Test.YtdpkbbbfnmneiaaInsI4
namespace Go.Proofs.Ytdpkbbbfnmneiaa
open Go.ChangeShapes Go.WideShapes Go.ChangeAt Go.RowKit

theorem some_set {W : World} {p q : Addr} {v : Value} (h : (W.cell? q).isSome = true) : ((W.setCell p v).cell? q).isSome = true := by
  by_cases hpq : q = p
  · subst hpq
    rw [cell_set h]; rfl
  · rw [World.cell?_setCell_other _ _ _ _ (fun e => hpq (by rw [e]))]; exact h
/-- Operation p makes a block of two cells behind N. -/
def Mk2 (N p : Nat) (L : Nat → Bool) (vals : Nat → Value) (W : World) : Prop :=
  N ≤ W.heap.size ∧ (L p = true → ∃ b, vals p = .pointer (some ⟨b, 0, none⟩) ∧ N ≤ b ∧ (∀ i, W.frozen? ⟨b, i, none⟩ = false) ∧ (W.cell? ⟨b, 0, none⟩).isSome = true ∧ (W.cell? ⟨b, 1, none⟩).isSome = true ∧ b < W.heap.size)
theorem Mk2.start {N p : Nat} {vals : Nat → Value} {W : World} (h : N ≤ W.heap.size) : Mk2 N p (fun _ => false) vals W := ⟨h, (fun e => by cases e)⟩
theorem Mk2.next {N p : Nat} {L : Nat → Bool} {vals : Nat → Value} {W W' : World} (h : Mk2 N p L vals W) (hb : Below W.heap.size W W') {i : Nat} {v : Value} (hi : p ≠ i) : Mk2 N p (upd L i true) (upd vals i v) W' := by
  refine ⟨Nat.le_trans h.1 hb.size, fun e => ?_⟩
  rw [upd_other _ _ hi] at e
  obtain ⟨b, k1, k2, k3, k4, k5, k6⟩ := h.2 e
  exact ⟨b, by rw [upd_other _ _ hi]; exact k1, k2, fun i => (hb.frozen (p := ⟨b, i, none⟩) k6).trans (k3 i), by rw [hb.cell (p := ⟨b, 0, none⟩) k6]; exact k4, by rw [hb.cell (p := ⟨b, 1, none⟩) k6]; exact k5, Nat.lt_of_lt_of_le k6 hb.size⟩
theorem Mk2.made {N p : Nat} {L : Nat → Bool} {vals : Nat → Value} {W : World} {u v : Value} {t : TypeId} (h : Mk2 N p L vals W) (_ : L p = false) : Mk2 N p (upd L p true) (upd vals p (.pointer (some ⟨W.heap.size, 0, none⟩))) (W.alloc (.cells #[u, v] t)) := by
  refine ⟨Nat.le_trans h.1 (by simp), fun _ => ⟨W.heap.size, upd_same _ _ _, h.1, fun i => World.frozen?_alloc_new _ _ _ _, by simp [go_sem], by simp [go_sem], by simp⟩⟩
theorem Mk2.store {N p : Nat} {L : Nat → Bool} {vals : Nat → Value} {W : World} {a0 a1 : Addr} {x y : Value} (h : Mk2 N p L vals W) {i : Nat} {v : Value} (hi : p ≠ i) : Mk2 N p (upd L i true) (upd vals i v) ((W.setCell a0 x).setCell a1 y) := by
  refine ⟨Nat.le_trans h.1 (by simp [World.setCell]), fun e => ?_⟩
  rw [upd_other _ _ hi] at e
  obtain ⟨b, k1, k2, k3, k4, k5, k6⟩ := h.2 e
  exact ⟨b, by rw [upd_other _ _ hi]; exact k1, k2, fun i => by rw [World.frozen?_setCell, World.frozen?_setCell]; exact k3 i, some_set (some_set k4), some_set (some_set k5), by simpa [World.setCell] using k6⟩
/-- Block R, of two cells, is written by operation j. -/
def ResC (j R : Nat) (x y : Value) (L : Nat → Bool) (W : World) : Prop :=
  (∀ i, W.frozen? ⟨R, i, none⟩ = false) ∧ R < W.heap.size ∧ (W.cell? ⟨R, 0, none⟩).isSome = true ∧ (W.cell? ⟨R, 1, none⟩).isSome = true ∧ (L j = true → W.cell? ⟨R, 0, none⟩ = some x ∧ W.cell? ⟨R, 1, none⟩ = some y)
theorem ResC.next {j R : Nat} {x y : Value} {L : Nat → Bool} {W W' : World} (h : ResC j R x y L W) (hb : Below W.heap.size W W') {i : Nat} (hi : j ≠ i) : ResC j R x y (upd L i true) W' := by
  obtain ⟨h1, h2, h3, h4, h5⟩ := h
  have k : ∀ o, W'.cell? ⟨R, o, none⟩ = W.cell? ⟨R, o, none⟩ := fun o => hb.cell (p := ⟨R, o, none⟩) h2
  refine ⟨fun i => (hb.frozen (p := ⟨R, i, none⟩) h2).trans (h1 i), Nat.lt_of_lt_of_le h2 hb.size, by rw [k]; exact h3, by rw [k]; exact h4, fun e => ?_⟩
  rw [upd_other _ _ hi] at e
  rw [k, k]; exact h5 e
theorem ResC.keep {j R : Nat} {x y : Value} {L : Nat → Bool} {W : World} (h : ResC j R x y L W) {i : Nat} (hi : j ≠ i) : ResC j R x y (upd L i true) W := h.next (Below.refl _ _) hi
theorem ResC.done {j R : Nat} {x y : Value} {L : Nat → Bool} {W : World} (h : ResC j R x y L W) : ResC j R x y (upd L j true) ((W.setCell ⟨R, 0, none⟩ x).setCell ⟨R, 1, none⟩ y) := by
  obtain ⟨h1, h2, h3, h4, _⟩ := h
  obtain ⟨u, hu⟩ := Option.isSome_iff_exists.1 h3
  obtain ⟨v, hv⟩ := Option.isSome_iff_exists.1 h4
  obtain ⟨e0, e1⟩ := own2 hu hv
  have c0 : ((W.setCell ⟨R, 0, none⟩ x).setCell ⟨R, 1, none⟩ y).cell? ⟨R, 0, none⟩ = some x := by rw [World.cell?_setCell_other _ _ _ _ (by simp)]; exact e0 _
  exact ⟨fun i => by rw [World.frozen?_setCell, World.frozen?_setCell]; exact h1 i, by simpa [World.setCell] using h2, by rw [c0]; rfl, by rw [e1]; rfl, fun _ => ⟨c0, e1 _ _⟩⟩
theorem ResC.start {j R : Nat} {x y u v : Value} {W : World} (hf : ∀ i, W.frozen? ⟨R, i, none⟩ = false) (hl : R < W.heap.size) (h0 : W.cell? ⟨R, 0, none⟩ = some u) (h1 : W.cell? ⟨R, 1, none⟩ = some v) : ResC j R x y (fun _ => false) W := ⟨hf, hl, by rw [h0]; rfl, by rw [h1]; rfl, (fun e => by cases e)⟩
end Go.Proofs.Ytdpkbbbfnmneiaa
namespace Go.Proofs.Ytdpkbbbfnmneiaa
open Go.ChangeShapes Go.WideShapes Go.ChangeAt Go.RowKit
set_option linter.unusedVariables false

def canStep (P : Nat → Proc) (m : Nat) (o d a b r l h t : Int) (on : Bool) (n : Nat) (lo hi : Nat → Int) (c u : Int) : Bool :=
  prgOk P m && (insOk o d a b r l h t m 10 && (absOk on n lo hi c u && on))
def failB (o r : Int) (ai bi ti : Nat) (l h : Nat → Int) (P : Nat → Proc) : Bool :=
  if o = 4 then itvHas (l bi) (h bi) 0
  else if o = 6 then !itvIn (l ai) (h ai) 0 3
  else if o = 7 then !itvIn (l ai) (h ai) 0 3
  else if o = 10 then !itvIn (l ai) (h ai) (P ti).lo (P ti).hi
  else if o = 11 then (itvNot r (l ai) (h ai) (l bi) (h bi)).ok
  else false
def absFails (P : Nat → Proc) (m : Nat) (o d a b r l h t : Int) (on : Bool) (n : Nat) (lo hi : Nat → Int) (c u : Int) : Bool :=
  canStep P m o d a b r l h t on n lo hi c u && failB o r a.toNat b.toNat t.toNat lo hi P
theorem insOk_at {o d a b r l h t p s : Int} (g : insOk o d a b r l h t p s = true) : (0 ≤ a ∧ a < 4) ∧ (0 ≤ b ∧ b < 4) ∧ (0 ≤ d ∧ d < 4) ∧ (o = 10 → 0 ≤ t ∧ t < p) ∧ (o = 8 ∨ o = 9 → 0 ≤ t ∧ t < s) ∧ (1 ≤ o ∧ o ≤ 12) := by
  have hf : 1 ≤ o ∧ o ≤ 12 := by
    cases g0 : inB o 1 12
    · simp [insOk, form_out g0] at g
    · simpa [inB] using g0
  simp only [insOk, Bool.and_eq_true, inB, decide_eq_true_eq] at g
  obtain ⟨⟨_, ⟨⟨h1, h2⟩, h3, h4⟩, h5, h6⟩, h7⟩ := g
  refine ⟨by omega, by omega, by omega, fun e => ?_, fun e => ?_, hf⟩
  · subst e; simp [hasB] at h7; exact h7
  · rcases e with e | e
    · subst e; simp [hasB] at h7; exact ⟨h7.1.2, h7.2⟩
    · subst e; simp [hasB] at h7; exact h7
theorem canStep_at {P : Nat → Proc} {m : Nat} {o d a b r l h t : Int} {on : Bool} {n : Nat} {lo hi : Nat → Int} {c u : Int} (g : canStep P m o d a b r l h t on n lo hi c u = true) :
    on = true ∧ n = 4 ∧ (∃ k : Nat, k < 4 ∧ a = (k : Int)) ∧ (∃ k : Nat, k < 4 ∧ b = (k : Int)) ∧ (∃ k : Nat, k < 4 ∧ d = (k : Int)) ∧ (o = 10 → ∃ k : Nat, k < m ∧ t = (k : Int)) ∧ (o = 8 ∨ o = 9 → 0 ≤ t ∧ t < 10) ∧ (1 ≤ o ∧ o ≤ 12) := by
  simp only [canStep, Bool.and_eq_true] at g
  obtain ⟨_, g2, g3, rfl⟩ := g
  obtain ⟨h1, h2, h3, h4, h5, h6⟩ := insOk_at g2
  refine ⟨rfl, ?_, ⟨a.toNat, by omega, by omega⟩, ⟨b.toNat, by omega, by omega⟩, ⟨d.toNat, by omega, by omega⟩, fun e => ⟨t.toNat, by have := h4 e; omega, by have := h4 e; omega⟩, h5, h6⟩
  simp [absOk] at g3; exact g3.1
theorem itvPlacesS (w : World) : Calls Try.prog 71 #[] w fun e w' => e = .returned (.agg #[.int .i64 0, .int .i64 3]) ∧ Below w.heap.size w w' := by
  go_enter Try.func71, Try.ntmps71
  go_wp2
  refine bodyPost_ret (v := .agg #[.int .i64 0, .int .i64 3]) (by simp [results, Try.results71, go_sem]) rfl ⟨rfl, ?_⟩
  repeat (first | exact Below.refl _ _ | refine Below.drew ?_ | refine Below.alloc ?_ (by simp; try omega) _ | refine Below.setCell ?_ (by simp; try omega) _)
set_option maxRecDepth 10000 in
set_option maxHeartbeats 8000000 in
theorem fitS (pa : Option Addr) (pb po m pc : Nat) (P : Nat → Proc) (S : Nat → Spot) (o d a b r l h t : Int) (on : Bool) (sa : Option Addr) (sb off n cap : Nat) (lo hi : Nat → Int) (c u : Int) (w : World) (hm : m ≤ 1048576) (hN : ∀ i, i < m → (P i).n ≤ 1048576) (hn : n ≤ 1048576) (hP : ProcsAt pa pb po m P S w) (hC : BndsAt sa sb off n lo hi w) :
    Calls Try.prog 68 #[.agg #[.slice pa m pc], .agg #[.int .i64 o, .int .i64 d, .int .i64 a, .int .i64 b, .int .i64 r, .int .i64 l, .int .i64 h, .int .i64 t], .agg #[.bool on, .slice sa n cap, .int .i64 c, .int .i64 u]] w fun e w' => e = .returned (.bool (canStep P m o d a b r l h t on n lo hi c u)) ∧ Below w.heap.size w w' := by
  have H : HeldL w [(w.heap.size + 1 + 1, [Value.bool on, .slice sa n cap, .int .i64 c, .int .i64 u]), (w.heap.size + 1, [Value.int .i64 o, .int .i64 d, .int .i64 a, .int .i64 b, .int .i64 r, .int .i64 l, .int .i64 h, .int .i64 t]), (w.heap.size, [Value.slice pa m pc])] (((w.alloc (.cells #[.slice pa m pc] 35)).alloc (.cells #[.int .i64 o, .int .i64 d, .int .i64 a, .int .i64 b, .int .i64 r, .int .i64 l, .int .i64 h, .int .i64 t] 72)).alloc (.cells #[.bool on, .slice sa n cap, .int .i64 c, .int .i64 u] 77)) := by
    have e1 : w.heap.size + 1 = (w.alloc (.cells #[.slice pa m pc] 35)).heap.size := by simp
    have e2 : w.heap.size + 1 + 1 = ((w.alloc (.cells #[.slice pa m pc] 35)).alloc (.cells #[.int .i64 o, .int .i64 d, .int .i64 a, .int .i64 b, .int .i64 r, .int .i64 l, .int .i64 h, .int .i64 t] 72)).heap.size := by simp
    rw [e2, e1]
    exact HeldL.newL (vs := [Value.bool on, .slice sa n cap, .int .i64 c, .int .i64 u]) (HeldL.newL (vs := [Value.int .i64 o, .int .i64 d, .int .i64 a, .int .i64 b, .int .i64 r, .int .i64 l, .int .i64 h, .int .i64 t]) (HeldL.newL (vs := [Value.slice pa m pc]) (HeldL.nil w)))
  obtain ⟨Lb, hLb⟩ : ∃ L, L = [(w.heap.size + 1 + 1, [Value.bool on, .slice sa n cap, .int .i64 c, .int .i64 u]), (w.heap.size + 1, [Value.int .i64 o, .int .i64 d, .int .i64 a, .int .i64 b, .int .i64 r, .int .i64 l, .int .i64 h, .int .i64 t]), (w.heap.size, [Value.slice pa m pc])] := ⟨_, rfl⟩
  have mP : (w.heap.size, [Value.slice pa m pc]) ∈ Lb := by rw [hLb]; simp
  have mI : (w.heap.size + 1, [Value.int .i64 o, .int .i64 d, .int .i64 a, .int .i64 b, .int .i64 r, .int .i64 l, .int .i64 h, .int .i64 t]) ∈ Lb := by rw [hLb]; simp
  have mS : (w.heap.size + 1 + 1, [Value.bool on, .slice sa n cap, .int .i64 c, .int .i64 u]) ∈ Lb := by rw [hLb]; simp
  rw [← hLb] at H
  clear hLb
  have I := hC.next H.below
  have Q := hP.next H.below
  clear hC hP
  go_enter Try.func68, Try.ntmps68
  go_wp2_with fail
  refine (prgOkS _ _ _ _ _ _ _ _ hm hN Q).mono ?_
  rintro e w1 ⟨rfl, hb⟩
  replace H := H.next hb
  replace I := I.next hb
  replace Q := Q.next hb
  clear hb
  cases g1 : prgOk P m
  · go_wp2_with fail
    go_ret
    exact ⟨ret_bool (by simp [canStep, g1]), H.below⟩
  have x0 := H.cell mI (i := 0) rfl
  have x1 := H.cell mI (i := 1) rfl
  have x2 := H.cell mI (i := 2) rfl
  have x3 := H.cell mI (i := 3) rfl
  have x4 := H.cell mI (i := 4) rfl
  have x5 := H.cell mI (i := 5) rfl
  have x6 := H.cell mI (i := 6) rfl
  have x7 := H.cell mI (i := 7) rfl
  dsimp only at x0 x1 x2 x3 x4 x5 x6 x7
  have y0 := H.cell mP (i := 0) rfl
  dsimp only at y0
  go_wp2_with fail
  refine (insOkS _ _ _ _ _ _ _ _ _ _ _).mono ?_
  rintro e w2 ⟨rfl, hb⟩
  replace H := H.next hb
  replace I := I.next hb
  replace Q := Q.next hb
  clear hb
  clear x0 x1 x2 x3 x4 x5 x6 x7 y0
  cases g2 : insOk o d a b r l h t m 10
  · go_wp2_with fail
    go_ret
    exact ⟨ret_bool (by simp [canStep, g1, g2]), H.below⟩
  have c0 := H.cell mS (i := 0) rfl
  have c1 := H.cell mS (i := 1) rfl
  have c2 := H.cell mS (i := 2) rfl
  have c3 := H.cell mS (i := 3) rfl
  dsimp only at c0 c1 c2 c3
  go_wp2_with fail
  refine (absOkS _ _ _ _ _ _ _ _ _ _ _ I).mono ?_
  rintro e w3 ⟨rfl, hb⟩
  replace H := H.next hb
  replace I := I.next hb
  replace Q := Q.next hb
  clear hb
  clear c0 c1 c2 c3
  cases g3 : absOk on n lo hi c u
  · go_wp2_with fail
    go_ret
    exact ⟨ret_bool (by simp [canStep, g1, g2, g3]), H.below⟩
  have c0 := H.cell mS (i := 0) rfl
  dsimp only at c0
  go_wp2_with fail
  go_ret
  exact ⟨ret_bool (by simp [canStep, g1, g2, g3]), H.below⟩
set_option maxRecDepth 10000 in
set_option maxHeartbeats 8000000 in
theorem givenS (pa : Option Addr) (pb po m pc : Nat) (P : Nat → Proc) (S : Nat → Spot) (o d a b r l h : Int) (ti : Nat) (w : World) (ht : ti < m) (hP : ProcsAt pa pb po m P S w) :
    Calls Try.prog 72 #[.agg #[.slice pa m pc], .agg #[.int .i64 o, .int .i64 d, .int .i64 a, .int .i64 b, .int .i64 r, .int .i64 l, .int .i64 h, .int .i64 (ti : Int)]] w fun e w' => e = .returned (.agg #[.int .i64 (P ti).lo, .int .i64 (P ti).hi]) ∧ Below w.heap.size w w' := by
  have ep := hP.at_ (by omega)
  subst ep
  have H : HeldL w [(w.heap.size + 1, [Value.int .i64 o, .int .i64 d, .int .i64 a, .int .i64 b, .int .i64 r, .int .i64 l, .int .i64 h, .int .i64 (ti : Int)]), (w.heap.size, [Value.slice (some ⟨pb, po, none⟩) m pc])] ((w.alloc (.cells #[.slice (some ⟨pb, po, none⟩) m pc] 35)).alloc (.cells #[.int .i64 o, .int .i64 d, .int .i64 a, .int .i64 b, .int .i64 r, .int .i64 l, .int .i64 h, .int .i64 (ti : Int)] 72)) := by
    have e1 : w.heap.size + 1 = (w.alloc (.cells #[.slice (some ⟨pb, po, none⟩) m pc] 35)).heap.size := by simp
    rw [e1]
    exact HeldL.newL (vs := [Value.int .i64 o, .int .i64 d, .int .i64 a, .int .i64 b, .int .i64 r, .int .i64 l, .int .i64 h, .int .i64 (ti : Int)]) (HeldL.newL (vs := [Value.slice (some ⟨pb, po, none⟩) m pc]) (HeldL.nil w))
  obtain ⟨Lb, hLb⟩ : ∃ L, L = [(w.heap.size + 1, [Value.int .i64 o, .int .i64 d, .int .i64 a, .int .i64 b, .int .i64 r, .int .i64 l, .int .i64 h, .int .i64 (ti : Int)]), (w.heap.size, [Value.slice (some ⟨pb, po, none⟩) m pc])] := ⟨_, rfl⟩
  have mP : (w.heap.size, [Value.slice (some ⟨pb, po, none⟩) m pc]) ∈ Lb := by rw [hLb]; simp
  have mI : (w.heap.size + 1, [Value.int .i64 o, .int .i64 d, .int .i64 a, .int .i64 b, .int .i64 r, .int .i64 l, .int .i64 h, .int .i64 (ti : Int)]) ∈ Lb := by rw [hLb]; simp
  rw [← hLb] at H
  clear hLb
  have tt1 : ((ti : Int)).toNat = ti := by omega
  have tt2 : (0 : Int) ≤ (ti : Int) := by omega
  have tt3 : (ti : Int) < (m : Int) := by omega
  have hS0 : HX w w Lb (((w.alloc (.cells #[.slice (some ⟨pb, po, none⟩) m pc] 35)).alloc (.cells #[.int .i64 o, .int .i64 d, .int .i64 a, .int .i64 b, .int .i64 r, .int .i64 l, .int .i64 h, .int .i64 (ti : Int)] 72)).alloc (.cells #[.int .i64 0, .int .i64 0] 75)).drew := ⟨(H.alloc _).drew, ((H.alloc _).drew).below⟩
  have hR0 : ResC 15 (w.heap.size + 1 + 1) (.int .i64 (P ti).lo) (.int .i64 (P ti).hi) (fun _ => false) (((w.alloc (.cells #[.slice (some ⟨pb, po, none⟩) m pc] 35)).alloc (.cells #[.int .i64 o, .int .i64 d, .int .i64 a, .int .i64 b, .int .i64 r, .int .i64 l, .int .i64 h, .int .i64 (ti : Int)] 72)).alloc (.cells #[.int .i64 0, .int .i64 0] 75)).drew := ResC.start (u := .int .i64 0) (v := .int .i64 0) (fun i => by simp [go_sem]) (by simp) (by simp [go_sem]) (by simp [go_sem])
  have hN1 : ∀ e ∈ Lb, e.1 < w.heap.size + 1 + 1 := fun e he => by have := H.size he; simpa using this
  have hN2 : w.heap.size ≤ w.heap.size + 1 + 1 := by omega
  clear H
  go_enter Try.func72, Try.ntmps72
  go_wp2_with fail
  refine region_inv4 [(0, 5), (1, 6), (2, 7), (3, 8), (4, 9), (5, 10), (6, 11), (7, 12), (8, 13), (9, 14), (10, 15), (11, 16), (12, 17), (13, 18), (14, 19)]
    (fun j v => match j with
      | 0 => Is (.pointer (some ⟨w.heap.size, 0, none⟩)) v
      | 1 => Is (.slice (some ⟨pb, po, none⟩) m pc) v
      | 2 => Is (.pointer (some ⟨w.heap.size + 1, 7, none⟩)) v
      | 3 => Is (.int .i64 ti) v
      | 4 => Is (.pointer (some ⟨pb, po + ti * 3, none⟩)) v
      | 5 => Is (.pointer (some ⟨pb, po + ti * 3, none⟩)) v
      | 6 => Is (.int .i64 (P ti).lo) v
      | 7 => Is (.pointer (some ⟨w.heap.size, 0, none⟩)) v
      | 8 => Is (.slice (some ⟨pb, po, none⟩) m pc) v
      | 9 => Is (.pointer (some ⟨w.heap.size + 1, 7, none⟩)) v
      | 10 => Is (.int .i64 ti) v
      | 11 => Is (.pointer (some ⟨pb, po + ti * 3, none⟩)) v
      | 12 => Is (.pointer (some ⟨pb, po + ti * 3 + 1, none⟩)) v
      | 13 => Is (.int .i64 (P ti).hi) v
      | 14 => Is (.agg #[.int .i64 (P ti).lo, .int .i64 (P ti).hi]) v
      | _ => True)
    (fun L vals W => HX w w Lb W ∧ ResC 15 (w.heap.size + 1 + 1) (.int .i64 (P ti).lo) (.int .i64 (P ti).hi) L W)
    (by kernel_rfl) (by kernel_rfl) (by kernel_rfl) (by kernel_rfl) (by kernel_rfl) rfl (fun _ => ⟨hS0, hR0⟩) ?_ ?_
  · intro i L vals W hi' hφ hSS hL hd
    have hi2 : i < 16 := hi'
    obtain ⟨hS, hR⟩ := hSS
    clear hi'
    rcases (show i = 0 ∨ i = 1 ∨ i = 2 ∨ i = 3 ∨ i = 4 ∨ i = 5 ∨ i = 6 ∨ i = 7 ∨ i = 8 ∨ i = 9 ∨ i = 10 ∨ i = 11 ∨ i = 12 ∨ i = 13 ∨ i = 14 ∨ i = 15 by omega) with rfl | rfl | rfl | rfl | rfl | rfl | rfl | rfl | rfl | rfl | rfl | rfl | rfl | rfl | rfl | rfl
    · refine wpAt_of rfl rfl ?_
      simp only [frOf, Act.put]
      go_wp2_with fail
      first | exact ⟨trivial, rfl, hS, hR.keep (by decide)⟩ | exact ⟨rfl, hS, hR.keep (by decide)⟩ | exact ⟨trivial, trivial, rfl, hS, hR.keep (by decide)⟩
    · have k0 : vals 0 = .pointer (some ⟨w.heap.size, 0, none⟩) := hφ 0 (hd 0 (by decide))
      have c0 := hS.cell mP (i := 0) rfl
      dsimp only at c0
      refine wpAt_of rfl rfl ?_
      simp only [frOf, Act.put]
      go_wp2_with fail
      first | exact ⟨trivial, rfl, hS, hR.keep (by decide)⟩ | exact ⟨rfl, hS, hR.keep (by decide)⟩ | exact ⟨trivial, trivial, rfl, hS, hR.keep (by decide)⟩
    · refine wpAt_of rfl rfl ?_
      simp only [frOf, Act.put]
      go_wp2_with fail
      first | exact ⟨trivial, rfl, hS, hR.keep (by decide)⟩ | exact ⟨rfl, hS, hR.keep (by decide)⟩ | exact ⟨trivial, trivial, rfl, hS, hR.keep (by decide)⟩
    · have k2 : vals 2 = .pointer (some ⟨w.heap.size + 1, 7, none⟩) := hφ 2 (hd 2 (by decide))
      have c7 := hS.cell mI (i := 7) rfl
      dsimp only at c7
      refine wpAt_of rfl rfl ?_
      simp only [frOf, Act.put]
      go_wp2_with fail
      first | exact ⟨trivial, rfl, hS, hR.keep (by decide)⟩ | exact ⟨rfl, hS, hR.keep (by decide)⟩ | exact ⟨trivial, trivial, rfl, hS, hR.keep (by decide)⟩
    · have k1 : vals 1 = .slice (some ⟨pb, po, none⟩) m pc := hφ 1 (hd 1 (by decide))
      have k3 : vals 3 = .int .i64 ti := hφ 3 (hd 3 (by decide))
      refine wpAt_of rfl rfl ?_
      simp only [frOf, Act.put]
      go_wp2_with fail
      first | exact ⟨trivial, rfl, hS, hR.keep (by decide)⟩ | exact ⟨rfl, hS, hR.keep (by decide)⟩ | exact ⟨trivial, trivial, rfl, hS, hR.keep (by decide)⟩
    · have k4 : vals 4 = .pointer (some ⟨pb, po + ti * 3, none⟩) := hφ 4 (hd 4 (by decide))
      refine wpAt_of rfl rfl ?_
      simp only [frOf, Act.put]
      go_wp2_with fail
      first | exact ⟨trivial, rfl, hS, hR.keep (by decide)⟩ | exact ⟨rfl, hS, hR.keep (by decide)⟩ | exact ⟨trivial, trivial, rfl, hS, hR.keep (by decide)⟩
    · have k5 : vals 5 = .pointer (some ⟨pb, po + ti * 3, none⟩) := hφ 5 (hd 5 (by decide))
      have d0 := (hP.next hS.beh).lo ti ht
      refine wpAt_of rfl rfl ?_
      simp only [frOf, Act.put]
      go_wp2_with fail
      first | exact ⟨trivial, rfl, hS, hR.keep (by decide)⟩ | exact ⟨rfl, hS, hR.keep (by decide)⟩ | exact ⟨trivial, trivial, rfl, hS, hR.keep (by decide)⟩
    · refine wpAt_of rfl rfl ?_
      simp only [frOf, Act.put]
      go_wp2_with fail
      first | exact ⟨trivial, rfl, hS, hR.keep (by decide)⟩ | exact ⟨rfl, hS, hR.keep (by decide)⟩ | exact ⟨trivial, trivial, rfl, hS, hR.keep (by decide)⟩
    · have k7 : vals 7 = .pointer (some ⟨w.heap.size, 0, none⟩) := hφ 7 (hd 7 (by decide))
      have c0 := hS.cell mP (i := 0) rfl
      dsimp only at c0
      refine wpAt_of rfl rfl ?_
      simp only [frOf, Act.put]
      go_wp2_with fail
      first | exact ⟨trivial, rfl, hS, hR.keep (by decide)⟩ | exact ⟨rfl, hS, hR.keep (by decide)⟩ | exact ⟨trivial, trivial, rfl, hS, hR.keep (by decide)⟩
    · refine wpAt_of rfl rfl ?_
      simp only [frOf, Act.put]
      go_wp2_with fail
      first | exact ⟨trivial, rfl, hS, hR.keep (by decide)⟩ | exact ⟨rfl, hS, hR.keep (by decide)⟩ | exact ⟨trivial, trivial, rfl, hS, hR.keep (by decide)⟩
    · have k9 : vals 9 = .pointer (some ⟨w.heap.size + 1, 7, none⟩) := hφ 9 (hd 9 (by decide))
      have c7 := hS.cell mI (i := 7) rfl
      dsimp only at c7
      refine wpAt_of rfl rfl ?_
      simp only [frOf, Act.put]
      go_wp2_with fail
      first | exact ⟨trivial, rfl, hS, hR.keep (by decide)⟩ | exact ⟨rfl, hS, hR.keep (by decide)⟩ | exact ⟨trivial, trivial, rfl, hS, hR.keep (by decide)⟩
    · have k8 : vals 8 = .slice (some ⟨pb, po, none⟩) m pc := hφ 8 (hd 8 (by decide))
      have k10 : vals 10 = .int .i64 ti := hφ 10 (hd 10 (by decide))
      refine wpAt_of rfl rfl ?_
      simp only [frOf, Act.put]
      go_wp2_with fail
      first | exact ⟨trivial, rfl, hS, hR.keep (by decide)⟩ | exact ⟨rfl, hS, hR.keep (by decide)⟩ | exact ⟨trivial, trivial, rfl, hS, hR.keep (by decide)⟩
    · have k11 : vals 11 = .pointer (some ⟨pb, po + ti * 3, none⟩) := hφ 11 (hd 11 (by decide))
      refine wpAt_of rfl rfl ?_
      simp only [frOf, Act.put]
      go_wp2_with fail
      first | exact ⟨trivial, rfl, hS, hR.keep (by decide)⟩ | exact ⟨rfl, hS, hR.keep (by decide)⟩ | exact ⟨trivial, trivial, rfl, hS, hR.keep (by decide)⟩
    · have k12 : vals 12 = .pointer (some ⟨pb, po + ti * 3 + 1, none⟩) := hφ 12 (hd 12 (by decide))
      have d1 := (hP.next hS.beh).hi ti ht
      refine wpAt_of rfl rfl ?_
      simp only [frOf, Act.put]
      go_wp2_with fail
      first | exact ⟨trivial, rfl, hS, hR.keep (by decide)⟩ | exact ⟨rfl, hS, hR.keep (by decide)⟩ | exact ⟨trivial, trivial, rfl, hS, hR.keep (by decide)⟩
    · have k6 : vals 6 = .int .i64 (P ti).lo := hφ 6 (hd 6 (by decide))
      have k13 : vals 13 = .int .i64 (P ti).hi := hφ 13 (hd 13 (by decide))
      refine wpAt_of rfl rfl ?_
      simp only [frOf, Act.put]
      go_wp2_with fail
      first | exact ⟨trivial, rfl, hS, hR.keep (by decide)⟩ | exact ⟨rfl, hS, hR.keep (by decide)⟩ | exact ⟨trivial, trivial, rfl, hS, hR.keep (by decide)⟩
    · have k14 : vals 14 = .agg #[.int .i64 (P ti).lo, .int .i64 (P ti).hi] := hφ 14 (hd 14 (by decide))
      obtain ⟨u0, cc0⟩ := Option.isSome_iff_exists.1 hR.2.2.1
      obtain ⟨u1, cc1⟩ := Option.isSome_iff_exists.1 hR.2.2.2.1
      have hbf := hR.1
      refine wpAt_none rfl rfl ?_
      simp only [frOf, Act.put]
      go_wp2_with fail
      first | exact ⟨trivial, HX.setAll hN1 hN2 hN2 (Nat.le_refl _) [Value.int .i64 (P ti).lo, .int .i64 (P ti).hi] 0 hS, hR.done⟩ | exact ⟨HX.setAll hN1 hN2 hN2 (Nat.le_refl _) [Value.int .i64 (P ti).lo, .int .i64 (P ti).hi] 0 hS, hR.done⟩ | exact ⟨trivial, trivial, HX.setAll hN1 hN2 hN2 (Nat.le_refl _) [Value.int .i64 (P ti).lo, .int .i64 (P ti).hi] 0 hS, hR.done⟩
  · intro L vals W hall hφ hSS
    obtain ⟨hS, hR⟩ := hSS
    have k0 : vals 0 = .pointer (some ⟨w.heap.size, 0, none⟩) := hφ 0 (by decide)
    have k1 : vals 1 = .slice (some ⟨pb, po, none⟩) m pc := hφ 1 (by decide)
    have k2 : vals 2 = .pointer (some ⟨w.heap.size + 1, 7, none⟩) := hφ 2 (by decide)
    have k3 : vals 3 = .int .i64 ti := hφ 3 (by decide)
    have k4 : vals 4 = .pointer (some ⟨pb, po + ti * 3, none⟩) := hφ 4 (by decide)
    have k5 : vals 5 = .pointer (some ⟨pb, po + ti * 3, none⟩) := hφ 5 (by decide)
    have k6 : vals 6 = .int .i64 (P ti).lo := hφ 6 (by decide)
    have k7 : vals 7 = .pointer (some ⟨w.heap.size, 0, none⟩) := hφ 7 (by decide)
    have k8 : vals 8 = .slice (some ⟨pb, po, none⟩) m pc := hφ 8 (by decide)
    have k9 : vals 9 = .pointer (some ⟨w.heap.size + 1, 7, none⟩) := hφ 9 (by decide)
    have k10 : vals 10 = .int .i64 ti := hφ 10 (by decide)
    have k11 : vals 11 = .pointer (some ⟨pb, po + ti * 3, none⟩) := hφ 11 (by decide)
    have k12 : vals 12 = .pointer (some ⟨pb, po + ti * 3 + 1, none⟩) := hφ 12 (by decide)
    have k13 : vals 13 = .int .i64 (P ti).hi := hφ 13 (by decide)
    have k14 : vals 14 = .agg #[.int .i64 (P ti).lo, .int .i64 (P ti).hi] := hφ 14 (by decide)
    simp only [frOf, Act.put, List.setIfInBounds_toArray, List.set_cons_succ, List.set_cons_zero, k0, k1, k2, k3, k4, k5, k6, k7, k8, k9, k10, k11, k12, k13, k14]
    clear k0 k1 k2 k3 k4 k5 k6 k7 k8 k9 k10 k11 k12 k13 k14 hφ
    obtain ⟨e0, e1⟩ := hR.2.2.2.2 (hall 15 (by decide))
    have bE := hS.1.below
    clear hall
    go_wp2_with fail
    refine bodyPost_ret (v := .agg #[.int .i64 (P ti).lo, .int .i64 (P ti).hi]) (by simp [results, Try.results72, go_sem, e0, e1]) rfl ⟨rfl, bE⟩
set_option maxRecDepth 10000 in
set_option maxHeartbeats 8000000 in
theorem absFailsS_4 (pa : Option Addr) (pb po m pc : Nat) (P : Nat → Proc) (S : Nat → Spot) (d : Int) (ai bi : Nat) (r l h t : Int) (sb off cap : Nat) (lo hi : Nat → Int) (c u : Int) (w : World) (hm : m ≤ 1048576) (hN : ∀ i, i < m → (P i).n ≤ 1048576) (hP : ProcsAt pa pb po m P S w) (hC : BndsAt (some ⟨sb, off, none⟩) sb off 4 lo hi w) (hai : ai < 4) (hbi : bi < 4) (g : Hid (canStep P m 4 d ai bi r l h t true 4 lo hi c u = true)) :
    Calls Try.prog 34 #[.agg #[.slice pa m pc], .agg #[.int .i64 4, .int .i64 d, .int .i64 (ai : Int), .int .i64 (bi : Int), .int .i64 r, .int .i64 l, .int .i64 h, .int .i64 t], .agg #[.bool true, .slice (some ⟨sb, off, none⟩) 4 cap, .int .i64 c, .int .i64 u]] w fun e w' => e = .returned (.bool (failB 4 r ai bi t.toNat lo hi P)) ∧ Below w.heap.size w w' := by
  have H : HeldL w [(w.heap.size + 1 + 1, [Value.bool true, .slice (some ⟨sb, off, none⟩) 4 cap, .int .i64 c, .int .i64 u]), (w.heap.size + 1, [Value.int .i64 4, .int .i64 d, .int .i64 (ai : Int), .int .i64 (bi : Int), .int .i64 r, .int .i64 l, .int .i64 h, .int .i64 t]), (w.heap.size, [Value.slice pa m pc])] (((w.alloc (.cells #[.slice pa m pc] 35)).alloc (.cells #[.int .i64 4, .int .i64 d, .int .i64 (ai : Int), .int .i64 (bi : Int), .int .i64 r, .int .i64 l, .int .i64 h, .int .i64 t] 72)).alloc (.cells #[.bool true, .slice (some ⟨sb, off, none⟩) 4 cap, .int .i64 c, .int .i64 u] 77)) := by
    have e1 : w.heap.size + 1 = (w.alloc (.cells #[.slice pa m pc] 35)).heap.size := by simp
    have e2 : w.heap.size + 1 + 1 = ((w.alloc (.cells #[.slice pa m pc] 35)).alloc (.cells #[.int .i64 4, .int .i64 d, .int .i64 (ai : Int), .int .i64 (bi : Int), .int .i64 r, .int .i64 l, .int .i64 h, .int .i64 t] 72)).heap.size := by simp
    rw [e2, e1]
    exact HeldL.newL (vs := [Value.bool true, .slice (some ⟨sb, off, none⟩) 4 cap, .int .i64 c, .int .i64 u]) (HeldL.newL (vs := [Value.int .i64 4, .int .i64 d, .int .i64 (ai : Int), .int .i64 (bi : Int), .int .i64 r, .int .i64 l, .int .i64 h, .int .i64 t]) (HeldL.newL (vs := [Value.slice pa m pc]) (HeldL.nil w)))
  obtain ⟨Lb, hLb⟩ : ∃ L, L = [(w.heap.size + 1 + 1, [Value.bool true, .slice (some ⟨sb, off, none⟩) 4 cap, .int .i64 c, .int .i64 u]), (w.heap.size + 1, [Value.int .i64 4, .int .i64 d, .int .i64 (ai : Int), .int .i64 (bi : Int), .int .i64 r, .int .i64 l, .int .i64 h, .int .i64 t]), (w.heap.size, [Value.slice pa m pc])] := ⟨_, rfl⟩
  have mP : (w.heap.size, [Value.slice pa m pc]) ∈ Lb := by rw [hLb]; simp
  have mI : (w.heap.size + 1, [Value.int .i64 4, .int .i64 d, .int .i64 (ai : Int), .int .i64 (bi : Int), .int .i64 r, .int .i64 l, .int .i64 h, .int .i64 t]) ∈ Lb := by rw [hLb]; simp
  have mS : (w.heap.size + 1 + 1, [Value.bool true, .slice (some ⟨sb, off, none⟩) 4 cap, .int .i64 c, .int .i64 u]) ∈ Lb := by rw [hLb]; simp
  rw [← hLb] at H
  clear hLb
  have I := hC.next H.below
  have Q := hP.next H.below
  clear hC hP
  go_enter Try.func34, Try.ntmps34
  go_wp2_with fail
  refine (fitS _ _ _ _ _ _ _ _ _ _ _ _ _ _ _ _ _ _ _ _ _ _ _ _ _ _ hm hN (by omega) Q I).mono ?_
  rintro e w1 ⟨rfl, hb⟩
  rw [g.out]
  replace H := H.next hb
  replace I := I.next hb
  replace Q := Q.next hb
  clear hb
  clear hm hN
  have c0 := H.cell mI (i := 0) rfl
  dsimp only at c0
  have t1ai : ((ai : Int)).toNat = ai := by omega
  have t2ai : (0 : Int) ≤ (ai : Int) := by omega
  have t3ai : (ai : Int) < 4 := by omega
  have t1bi : ((bi : Int)).toNat = bi := by omega
  have t2bi : (0 : Int) ≤ (bi : Int) := by omega
  have t3bi : (bi : Int) < 4 := by omega
  have x3 := H.cell mI (i := 3) rfl
  dsimp only at x3
  have y1 := H.cell mS (i := 1) rfl
  dsimp only at y1
  have d0 := I.lo bi hbi
  have d1 := I.hi bi hbi
  go_wp2_with fail
  refine (itvHasS _ _ _ _).mono ?_
  rintro e w2 ⟨rfl, hb⟩
  replace H := H.next hb
  go_wp2_with fail
  go_ret
  exact ⟨ret_bool (by simp [failB]), H.below⟩
set_option maxRecDepth 10000 in
set_option maxHeartbeats 8000000 in
theorem absFailsS_6 (pa : Option Addr) (pb po m pc : Nat) (P : Nat → Proc) (S : Nat → Spot) (d : Int) (ai bi : Nat) (r l h t : Int) (sb off cap : Nat) (lo hi : Nat → Int) (c u : Int) (w : World) (hm : m ≤ 1048576) (hN : ∀ i, i < m → (P i).n ≤ 1048576) (hP : ProcsAt pa pb po m P S w) (hC : BndsAt (some ⟨sb, off, none⟩) sb off 4 lo hi w) (hai : ai < 4) (hbi : bi < 4) (g : Hid (canStep P m 6 d ai bi r l h t true 4 lo hi c u = true)) :
    Calls Try.prog 34 #[.agg #[.slice pa m pc], .agg #[.int .i64 6, .int .i64 d, .int .i64 (ai : Int), .int .i64 (bi : Int), .int .i64 r, .int .i64 l, .int .i64 h, .int .i64 t], .agg #[.bool true, .slice (some ⟨sb, off, none⟩) 4 cap, .int .i64 c, .int .i64 u]] w fun e w' => e = .returned (.bool (failB 6 r ai bi t.toNat lo hi P)) ∧ Below w.heap.size w w' := by
  have H : HeldL w [(w.heap.size + 1 + 1, [Value.bool true, .slice (some ⟨sb, off, none⟩) 4 cap, .int .i64 c, .int .i64 u]), (w.heap.size + 1, [Value.int .i64 6, .int .i64 d, .int .i64 (ai : Int), .int .i64 (bi : Int), .int .i64 r, .int .i64 l, .int .i64 h, .int .i64 t]), (w.heap.size, [Value.slice pa m pc])] (((w.alloc (.cells #[.slice pa m pc] 35)).alloc (.cells #[.int .i64 6, .int .i64 d, .int .i64 (ai : Int), .int .i64 (bi : Int), .int .i64 r, .int .i64 l, .int .i64 h, .int .i64 t] 72)).alloc (.cells #[.bool true, .slice (some ⟨sb, off, none⟩) 4 cap, .int .i64 c, .int .i64 u] 77)) := by
    have e1 : w.heap.size + 1 = (w.alloc (.cells #[.slice pa m pc] 35)).heap.size := by simp
    have e2 : w.heap.size + 1 + 1 = ((w.alloc (.cells #[.slice pa m pc] 35)).alloc (.cells #[.int .i64 6, .int .i64 d, .int .i64 (ai : Int), .int .i64 (bi : Int), .int .i64 r, .int .i64 l, .int .i64 h, .int .i64 t] 72)).heap.size := by simp
    rw [e2, e1]
    exact HeldL.newL (vs := [Value.bool true, .slice (some ⟨sb, off, none⟩) 4 cap, .int .i64 c, .int .i64 u]) (HeldL.newL (vs := [Value.int .i64 6, .int .i64 d, .int .i64 (ai : Int), .int .i64 (bi : Int), .int .i64 r, .int .i64 l, .int .i64 h, .int .i64 t]) (HeldL.newL (vs := [Value.slice pa m pc]) (HeldL.nil w)))
  obtain ⟨Lb, hLb⟩ : ∃ L, L = [(w.heap.size + 1 + 1, [Value.bool true, .slice (some ⟨sb, off, none⟩) 4 cap, .int .i64 c, .int .i64 u]), (w.heap.size + 1, [Value.int .i64 6, .int .i64 d, .int .i64 (ai : Int), .int .i64 (bi : Int), .int .i64 r, .int .i64 l, .int .i64 h, .int .i64 t]), (w.heap.size, [Value.slice pa m pc])] := ⟨_, rfl⟩
  have mP : (w.heap.size, [Value.slice pa m pc]) ∈ Lb := by rw [hLb]; simp
  have mI : (w.heap.size + 1, [Value.int .i64 6, .int .i64 d, .int .i64 (ai : Int), .int .i64 (bi : Int), .int .i64 r, .int .i64 l, .int .i64 h, .int .i64 t]) ∈ Lb := by rw [hLb]; simp
  have mS : (w.heap.size + 1 + 1, [Value.bool true, .slice (some ⟨sb, off, none⟩) 4 cap, .int .i64 c, .int .i64 u]) ∈ Lb := by rw [hLb]; simp
  rw [← hLb] at H
  clear hLb
  have I := hC.next H.below
  have Q := hP.next H.below
  clear hC hP
  go_enter Try.func34, Try.ntmps34
  go_wp2_with fail
  refine (fitS _ _ _ _ _ _ _ _ _ _ _ _ _ _ _ _ _ _ _ _ _ _ _ _ _ _ hm hN (by omega) Q I).mono ?_
  rintro e w1 ⟨rfl, hb⟩
  rw [g.out]
  replace H := H.next hb
  replace I := I.next hb
  replace Q := Q.next hb
  clear hb
  clear hm hN
  have c0 := H.cell mI (i := 0) rfl
  dsimp only at c0
  have t1ai : ((ai : Int)).toNat = ai := by omega
  have t2ai : (0 : Int) ≤ (ai : Int) := by omega
  have t3ai : (ai : Int) < 4 := by omega
  have t1bi : ((bi : Int)).toNat = bi := by omega
  have t2bi : (0 : Int) ≤ (bi : Int) := by omega
  have t3bi : (bi : Int) < 4 := by omega
  obtain ⟨q, hq'⟩ : ∃ q, itvIn (lo ai) (hi ai) 0 3 = q := ⟨_, rfl⟩
  have hq : Hid (itvIn (lo ai) (hi ai) 0 3 = q) := hq'
  clear hq'
  have hS0 : HX w w1 Lb w1.drew := ⟨H.drew, (Below.refl _ w1).drew⟩
  clear H
  go_wp2_with fail
  refine region_inv3 [(0, 29), (1, 30), (2, 31), (3, 32), (4, 33), (5, 34), (6, 35), (7, 36), (8, 37), (9, 6)]
    (fun j v _ => match j with
      | 0 => Is (.pointer (some ⟨w.heap.size + 1 + 1, 1, none⟩)) v
      | 1 => Is (.slice (some ⟨sb, off, none⟩) 4 cap) v
      | 2 => Is (.pointer (some ⟨w.heap.size + 1, 2, none⟩)) v
      | 3 => Is (.int .i64 ai) v
      | 4 => Is (.pointer (some ⟨sb, off + ai * 2, none⟩)) v
      | 5 => Is (.agg #[.int .i64 (lo ai), .int .i64 (hi ai)]) v
      | 6 => Is (.agg #[.int .i64 0, .int .i64 3]) v
      | 7 => Is (.bool q) v
      | 8 => Is (.bool !q) v
      | 9 => Is (.bool !q) v
      | _ => True)
    (fun _ W => HX w w1 Lb W) TT
    (by kernel_rfl) (by kernel_rfl) (by kernel_rfl) (by kernel_rfl) (by kernel_rfl) rfl hS0 (fun i j v W W' _ h _ => h) ?_ ?_
  · intro i L vals W hi' hφ hS hL hd
    have hi2 : i < 10 := hi'
    clear hi'
    rcases (show i = 0 ∨ i = 1 ∨ i = 2 ∨ i = 3 ∨ i = 4 ∨ i = 5 ∨ i = 6 ∨ i = 7 ∨ i = 8 ∨ i = 9 by omega) with rfl | rfl | rfl | rfl | rfl | rfl | rfl | rfl | rfl | rfl
    · refine wpAt_of rfl rfl ?_
      simp only [frOf, Act.put]
      go_wp2_with fail
      first | exact ⟨trivial, rfl, trivial, hS⟩ | exact ⟨rfl, trivial, hS⟩ | exact ⟨trivial, rfl, trivial⟩ | exact ⟨rfl, trivial⟩ | exact rfl
    · have k0 : vals 0 = .pointer (some ⟨w.heap.size + 1 + 1, 1, none⟩) := hφ 0 (hd 0 (by decide))
      have c1 := hS.cell mS (i := 1) rfl
      dsimp only at c1
      refine wpAt_of rfl rfl ?_
      simp only [frOf, Act.put]
      go_wp2_with fail
      first | exact ⟨trivial, rfl, trivial, hS⟩ | exact ⟨rfl, trivial, hS⟩ | exact ⟨trivial, rfl, trivial⟩ | exact ⟨rfl, trivial⟩ | exact rfl
    · refine wpAt_of rfl rfl ?_
      simp only [frOf, Act.put]
      go_wp2_with fail
      first | exact ⟨trivial, rfl, trivial, hS⟩ | exact ⟨rfl, trivial, hS⟩ | exact ⟨trivial, rfl, trivial⟩ | exact ⟨rfl, trivial⟩ | exact rfl
    · have k2 : vals 2 = .pointer (some ⟨w.heap.size + 1, 2, none⟩) := hφ 2 (hd 2 (by decide))
      have c2 := hS.cell mI (i := 2) rfl
      dsimp only at c2
      refine wpAt_of rfl rfl ?_
      simp only [frOf, Act.put]
      go_wp2_with fail
      first | exact ⟨trivial, rfl, trivial, hS⟩ | exact ⟨rfl, trivial, hS⟩ | exact ⟨trivial, rfl, trivial⟩ | exact ⟨rfl, trivial⟩ | exact rfl
    · have k1 : vals 1 = .slice (some ⟨sb, off, none⟩) 4 cap := hφ 1 (hd 1 (by decide))
      have k3 : vals 3 = .int .i64 ai := hφ 3 (hd 3 (by decide))
      refine wpAt_of rfl rfl ?_
      simp only [frOf, Act.put]
      go_wp2_with fail
      first | exact ⟨trivial, rfl, trivial, hS⟩ | exact ⟨rfl, trivial, hS⟩ | exact ⟨trivial, rfl, trivial⟩ | exact ⟨rfl, trivial⟩ | exact rfl
    · have k4 : vals 4 = .pointer (some ⟨sb, off + ai * 2, none⟩) := hφ 4 (hd 4 (by decide))
      have dd := I.next hS.beh
      have d0 := dd.lo ai hai
      have d1 := dd.hi ai hai
      clear dd
      refine wpAt_of rfl rfl ?_
      simp only [frOf, Act.put]
      go_wp2_with fail
      first | exact ⟨trivial, rfl, trivial, hS⟩ | exact ⟨rfl, trivial, hS⟩ | exact ⟨trivial, rfl, trivial⟩ | exact ⟨rfl, trivial⟩ | exact rfl
    · refine wpAt_of rfl rfl ?_
      simp only [frOf, Act.put]
      go_wp2_with fail
      refine (itvPlacesS _).mono ?_
      rintro e W' ⟨rfl, hb⟩
      go_wp2_with fail
      first | exact ⟨trivial, rfl, trivial, HX.next hb hS⟩ | exact ⟨rfl, trivial, HX.next hb hS⟩ | exact ⟨trivial, rfl, trivial⟩ | exact ⟨rfl, trivial⟩ | exact rfl
    · have k5 : vals 5 = .agg #[.int .i64 (lo ai), .int .i64 (hi ai)] := hφ 5 (hd 5 (by decide))
      have k6 : vals 6 = .agg #[.int .i64 0, .int .i64 3] := hφ 6 (hd 6 (by decide))
      refine wpAt_of rfl rfl ?_
      simp only [frOf, Act.put]
      go_wp2_with fail
      refine (itvInS _ _ _ _ _).mono ?_
      rintro e W' ⟨rfl, hb⟩
      rw [hq.out]
      go_wp2_with fail
      first | exact ⟨trivial, rfl, trivial, HX.next hb hS⟩ | exact ⟨rfl, trivial, HX.next hb hS⟩ | exact ⟨trivial, rfl, trivial⟩ | exact ⟨rfl, trivial⟩ | exact rfl
    · have k7 : vals 7 = .bool q := hφ 7 (hd 7 (by decide))
      refine wpAt_of rfl rfl ?_
      simp only [frOf, Act.put]
      go_wp2_with fail
      first | exact ⟨trivial, rfl, trivial, hS⟩ | exact ⟨rfl, trivial, hS⟩ | exact ⟨trivial, rfl, trivial⟩ | exact ⟨rfl, trivial⟩ | exact rfl
    · have k8 : vals 8 = .bool !q := hφ 8 (hd 8 (by decide))
      refine wpAt_of rfl rfl ?_
      simp only [frOf, Act.put]
      go_wp2_with fail
      first | exact ⟨trivial, rfl, trivial, hS⟩ | exact ⟨rfl, trivial, hS⟩ | exact ⟨trivial, rfl, trivial⟩ | exact ⟨rfl, trivial⟩ | exact rfl
  · intro L vals W hall hφ hS
    have k0 : vals 0 = .pointer (some ⟨w.heap.size + 1 + 1, 1, none⟩) := hφ 0 (by decide)
    have k1 : vals 1 = .slice (some ⟨sb, off, none⟩) 4 cap := hφ 1 (by decide)
    have k2 : vals 2 = .pointer (some ⟨w.heap.size + 1, 2, none⟩) := hφ 2 (by decide)
    have k3 : vals 3 = .int .i64 ai := hφ 3 (by decide)
    have k4 : vals 4 = .pointer (some ⟨sb, off + ai * 2, none⟩) := hφ 4 (by decide)
    have k5 : vals 5 = .agg #[.int .i64 (lo ai), .int .i64 (hi ai)] := hφ 5 (by decide)
    have k6 : vals 6 = .agg #[.int .i64 0, .int .i64 3] := hφ 6 (by decide)
    have k7 : vals 7 = .bool q := hφ 7 (by decide)
    have k8 : vals 8 = .bool !q := hφ 8 (by decide)
    have k9 : vals 9 = .bool !q := hφ 9 (by decide)
    simp only [frOf, Act.put, List.setIfInBounds_toArray, List.set_cons_succ, List.set_cons_zero, k0, k1, k2, k3, k4, k5, k6, k7, k8, k9]
    clear k0 k1 k2 k3 k4 k5 k6 k7 k8 k9 hall hφ hS0
    have H := hS.1
    go_wp2_with fail
    go_ret
    exact ⟨ret_bool (by rw [← hq.out]; simp [failB]), H.below⟩
set_option maxRecDepth 10000 in
set_option maxHeartbeats 8000000 in
theorem absFailsS_7 (pa : Option Addr) (pb po m pc : Nat) (P : Nat → Proc) (S : Nat → Spot) (d : Int) (ai bi : Nat) (r l h t : Int) (sb off cap : Nat) (lo hi : Nat → Int) (c u : Int) (w : World) (hm : m ≤ 1048576) (hN : ∀ i, i < m → (P i).n ≤ 1048576) (hP : ProcsAt pa pb po m P S w) (hC : BndsAt (some ⟨sb, off, none⟩) sb off 4 lo hi w) (hai : ai < 4) (hbi : bi < 4) (g : Hid (canStep P m 7 d ai bi r l h t true 4 lo hi c u = true)) :
    Calls Try.prog 34 #[.agg #[.slice pa m pc], .agg #[.int .i64 7, .int .i64 d, .int .i64 (ai : Int), .int .i64 (bi : Int), .int .i64 r, .int .i64 l, .int .i64 h, .int .i64 t], .agg #[.bool true, .slice (some ⟨sb, off, none⟩) 4 cap, .int .i64 c, .int .i64 u]] w fun e w' => e = .returned (.bool (failB 7 r ai bi t.toNat lo hi P)) ∧ Below w.heap.size w w' := by
  have H : HeldL w [(w.heap.size + 1 + 1, [Value.bool true, .slice (some ⟨sb, off, none⟩) 4 cap, .int .i64 c, .int .i64 u]), (w.heap.size + 1, [Value.int .i64 7, .int .i64 d, .int .i64 (ai : Int), .int .i64 (bi : Int), .int .i64 r, .int .i64 l, .int .i64 h, .int .i64 t]), (w.heap.size, [Value.slice pa m pc])] (((w.alloc (.cells #[.slice pa m pc] 35)).alloc (.cells #[.int .i64 7, .int .i64 d, .int .i64 (ai : Int), .int .i64 (bi : Int), .int .i64 r, .int .i64 l, .int .i64 h, .int .i64 t] 72)).alloc (.cells #[.bool true, .slice (some ⟨sb, off, none⟩) 4 cap, .int .i64 c, .int .i64 u] 77)) := by
    have e1 : w.heap.size + 1 = (w.alloc (.cells #[.slice pa m pc] 35)).heap.size := by simp
    have e2 : w.heap.size + 1 + 1 = ((w.alloc (.cells #[.slice pa m pc] 35)).alloc (.cells #[.int .i64 7, .int .i64 d, .int .i64 (ai : Int), .int .i64 (bi : Int), .int .i64 r, .int .i64 l, .int .i64 h, .int .i64 t] 72)).heap.size := by simp
    rw [e2, e1]
    exact HeldL.newL (vs := [Value.bool true, .slice (some ⟨sb, off, none⟩) 4 cap, .int .i64 c, .int .i64 u]) (HeldL.newL (vs := [Value.int .i64 7, .int .i64 d, .int .i64 (ai : Int), .int .i64 (bi : Int), .int .i64 r, .int .i64 l, .int .i64 h, .int .i64 t]) (HeldL.newL (vs := [Value.slice pa m pc]) (HeldL.nil w)))
  obtain ⟨Lb, hLb⟩ : ∃ L, L = [(w.heap.size + 1 + 1, [Value.bool true, .slice (some ⟨sb, off, none⟩) 4 cap, .int .i64 c, .int .i64 u]), (w.heap.size + 1, [Value.int .i64 7, .int .i64 d, .int .i64 (ai : Int), .int .i64 (bi : Int), .int .i64 r, .int .i64 l, .int .i64 h, .int .i64 t]), (w.heap.size, [Value.slice pa m pc])] := ⟨_, rfl⟩
  have mP : (w.heap.size, [Value.slice pa m pc]) ∈ Lb := by rw [hLb]; simp
  have mI : (w.heap.size + 1, [Value.int .i64 7, .int .i64 d, .int .i64 (ai : Int), .int .i64 (bi : Int), .int .i64 r, .int .i64 l, .int .i64 h, .int .i64 t]) ∈ Lb := by rw [hLb]; simp
  have mS : (w.heap.size + 1 + 1, [Value.bool true, .slice (some ⟨sb, off, none⟩) 4 cap, .int .i64 c, .int .i64 u]) ∈ Lb := by rw [hLb]; simp
  rw [← hLb] at H
  clear hLb
  have I := hC.next H.below
  have Q := hP.next H.below
  clear hC hP
  go_enter Try.func34, Try.ntmps34
  go_wp2_with fail
  refine (fitS _ _ _ _ _ _ _ _ _ _ _ _ _ _ _ _ _ _ _ _ _ _ _ _ _ _ hm hN (by omega) Q I).mono ?_
  rintro e w1 ⟨rfl, hb⟩
  rw [g.out]
  replace H := H.next hb
  replace I := I.next hb
  replace Q := Q.next hb
  clear hb
  clear hm hN
  have c0 := H.cell mI (i := 0) rfl
  dsimp only at c0
  have t1ai : ((ai : Int)).toNat = ai := by omega
  have t2ai : (0 : Int) ≤ (ai : Int) := by omega
  have t3ai : (ai : Int) < 4 := by omega
  have t1bi : ((bi : Int)).toNat = bi := by omega
  have t2bi : (0 : Int) ≤ (bi : Int) := by omega
  have t3bi : (bi : Int) < 4 := by omega
  obtain ⟨q, hq'⟩ : ∃ q, itvIn (lo ai) (hi ai) 0 3 = q := ⟨_, rfl⟩
  have hq : Hid (itvIn (lo ai) (hi ai) 0 3 = q) := hq'
  clear hq'
  have hS0 : HX w w1 Lb w1.drew := ⟨H.drew, (Below.refl _ w1).drew⟩
  clear H
  go_wp2_with fail
  refine region_inv3 [(0, 29), (1, 30), (2, 31), (3, 32), (4, 33), (5, 34), (6, 35), (7, 36), (8, 37), (9, 6)]
    (fun j v _ => match j with
      | 0 => Is (.pointer (some ⟨w.heap.size + 1 + 1, 1, none⟩)) v
      | 1 => Is (.slice (some ⟨sb, off, none⟩) 4 cap) v
      | 2 => Is (.pointer (some ⟨w.heap.size + 1, 2, none⟩)) v
      | 3 => Is (.int .i64 ai) v
      | 4 => Is (.pointer (some ⟨sb, off + ai * 2, none⟩)) v
      | 5 => Is (.agg #[.int .i64 (lo ai), .int .i64 (hi ai)]) v
      | 6 => Is (.agg #[.int .i64 0, .int .i64 3]) v
      | 7 => Is (.bool q) v
      | 8 => Is (.bool !q) v
      | 9 => Is (.bool !q) v
      | _ => True)
    (fun _ W => HX w w1 Lb W) TT
    (by kernel_rfl) (by kernel_rfl) (by kernel_rfl) (by kernel_rfl) (by kernel_rfl) rfl hS0 (fun i j v W W' _ h _ => h) ?_ ?_
  · intro i L vals W hi' hφ hS hL hd
    have hi2 : i < 10 := hi'
    clear hi'
    rcases (show i = 0 ∨ i = 1 ∨ i = 2 ∨ i = 3 ∨ i = 4 ∨ i = 5 ∨ i = 6 ∨ i = 7 ∨ i = 8 ∨ i = 9 by omega) with rfl | rfl | rfl | rfl | rfl | rfl | rfl | rfl | rfl | rfl
    · refine wpAt_of rfl rfl ?_
      simp only [frOf, Act.put]
      go_wp2_with fail
      first | exact ⟨trivial, rfl, trivial, hS⟩ | exact ⟨rfl, trivial, hS⟩ | exact ⟨trivial, rfl, trivial⟩ | exact ⟨rfl, trivial⟩ | exact rfl
    · have k0 : vals 0 = .pointer (some ⟨w.heap.size + 1 + 1, 1, none⟩) := hφ 0 (hd 0 (by decide))
      have c1 := hS.cell mS (i := 1) rfl
      dsimp only at c1
      refine wpAt_of rfl rfl ?_
      simp only [frOf, Act.put]
      go_wp2_with fail
      first | exact ⟨trivial, rfl, trivial, hS⟩ | exact ⟨rfl, trivial, hS⟩ | exact ⟨trivial, rfl, trivial⟩ | exact ⟨rfl, trivial⟩ | exact rfl
    · refine wpAt_of rfl rfl ?_
      simp only [frOf, Act.put]
      go_wp2_with fail
      first | exact ⟨trivial, rfl, trivial, hS⟩ | exact ⟨rfl, trivial, hS⟩ | exact ⟨trivial, rfl, trivial⟩ | exact ⟨rfl, trivial⟩ | exact rfl
    · have k2 : vals 2 = .pointer (some ⟨w.heap.size + 1, 2, none⟩) := hφ 2 (hd 2 (by decide))
      have c2 := hS.cell mI (i := 2) rfl
      dsimp only at c2
      refine wpAt_of rfl rfl ?_
      simp only [frOf, Act.put]
      go_wp2_with fail
      first | exact ⟨trivial, rfl, trivial, hS⟩ | exact ⟨rfl, trivial, hS⟩ | exact ⟨trivial, rfl, trivial⟩ | exact ⟨rfl, trivial⟩ | exact rfl
    · have k1 : vals 1 = .slice (some ⟨sb, off, none⟩) 4 cap := hφ 1 (hd 1 (by decide))
      have k3 : vals 3 = .int .i64 ai := hφ 3 (hd 3 (by decide))
      refine wpAt_of rfl rfl ?_
      simp only [frOf, Act.put]
      go_wp2_with fail
      first | exact ⟨trivial, rfl, trivial, hS⟩ | exact ⟨rfl, trivial, hS⟩ | exact ⟨trivial, rfl, trivial⟩ | exact ⟨rfl, trivial⟩ | exact rfl
    · have k4 : vals 4 = .pointer (some ⟨sb, off + ai * 2, none⟩) := hφ 4 (hd 4 (by decide))
      have dd := I.next hS.beh
      have d0 := dd.lo ai hai
      have d1 := dd.hi ai hai
      clear dd
      refine wpAt_of rfl rfl ?_
      simp only [frOf, Act.put]
      go_wp2_with fail
      first | exact ⟨trivial, rfl, trivial, hS⟩ | exact ⟨rfl, trivial, hS⟩ | exact ⟨trivial, rfl, trivial⟩ | exact ⟨rfl, trivial⟩ | exact rfl
    · refine wpAt_of rfl rfl ?_
      simp only [frOf, Act.put]
      go_wp2_with fail
      refine (itvPlacesS _).mono ?_
      rintro e W' ⟨rfl, hb⟩
      go_wp2_with fail
      first | exact ⟨trivial, rfl, trivial, HX.next hb hS⟩ | exact ⟨rfl, trivial, HX.next hb hS⟩ | exact ⟨trivial, rfl, trivial⟩ | exact ⟨rfl, trivial⟩ | exact rfl
    · have k5 : vals 5 = .agg #[.int .i64 (lo ai), .int .i64 (hi ai)] := hφ 5 (hd 5 (by decide))
      have k6 : vals 6 = .agg #[.int .i64 0, .int .i64 3] := hφ 6 (hd 6 (by decide))
      refine wpAt_of rfl rfl ?_
      simp only [frOf, Act.put]
      go_wp2_with fail
      refine (itvInS _ _ _ _ _).mono ?_
      rintro e W' ⟨rfl, hb⟩
      rw [hq.out]
      go_wp2_with fail
      first | exact ⟨trivial, rfl, trivial, HX.next hb hS⟩ | exact ⟨rfl, trivial, HX.next hb hS⟩ | exact ⟨trivial, rfl, trivial⟩ | exact ⟨rfl, trivial⟩ | exact rfl
    · have k7 : vals 7 = .bool q := hφ 7 (hd 7 (by decide))
      refine wpAt_of rfl rfl ?_
      simp only [frOf, Act.put]
      go_wp2_with fail
      first | exact ⟨trivial, rfl, trivial, hS⟩ | exact ⟨rfl, trivial, hS⟩ | exact ⟨trivial, rfl, trivial⟩ | exact ⟨rfl, trivial⟩ | exact rfl
    · have k8 : vals 8 = .bool !q := hφ 8 (hd 8 (by decide))
      refine wpAt_of rfl rfl ?_
      simp only [frOf, Act.put]
      go_wp2_with fail
      first | exact ⟨trivial, rfl, trivial, hS⟩ | exact ⟨rfl, trivial, hS⟩ | exact ⟨trivial, rfl, trivial⟩ | exact ⟨rfl, trivial⟩ | exact rfl
  · intro L vals W hall hφ hS
    have k0 : vals 0 = .pointer (some ⟨w.heap.size + 1 + 1, 1, none⟩) := hφ 0 (by decide)
    have k1 : vals 1 = .slice (some ⟨sb, off, none⟩) 4 cap := hφ 1 (by decide)
    have k2 : vals 2 = .pointer (some ⟨w.heap.size + 1, 2, none⟩) := hφ 2 (by decide)
    have k3 : vals 3 = .int .i64 ai := hφ 3 (by decide)
    have k4 : vals 4 = .pointer (some ⟨sb, off + ai * 2, none⟩) := hφ 4 (by decide)
    have k5 : vals 5 = .agg #[.int .i64 (lo ai), .int .i64 (hi ai)] := hφ 5 (by decide)
    have k6 : vals 6 = .agg #[.int .i64 0, .int .i64 3] := hφ 6 (by decide)
    have k7 : vals 7 = .bool q := hφ 7 (by decide)
    have k8 : vals 8 = .bool !q := hφ 8 (by decide)
    have k9 : vals 9 = .bool !q := hφ 9 (by decide)
    simp only [frOf, Act.put, List.setIfInBounds_toArray, List.set_cons_succ, List.set_cons_zero, k0, k1, k2, k3, k4, k5, k6, k7, k8, k9]
    clear k0 k1 k2 k3 k4 k5 k6 k7 k8 k9 hall hφ hS0
    have H := hS.1
    go_wp2_with fail
    go_ret
    exact ⟨ret_bool (by rw [← hq.out]; simp [failB]), H.below⟩
set_option maxRecDepth 10000 in
set_option maxHeartbeats 8000000 in
theorem absFailsS_10 (pb po m pc : Nat) (P : Nat → Proc) (S : Nat → Spot) (d : Int) (ai bi ti : Nat) (r l h : Int) (sb off cap : Nat) (lo hi : Nat → Int) (c u : Int) (w : World) (hm : m ≤ 1048576) (hN : ∀ i, i < m → (P i).n ≤ 1048576) (hP : ProcsAt (some ⟨pb, po, none⟩) pb po m P S w) (hC : BndsAt (some ⟨sb, off, none⟩) sb off 4 lo hi w) (hai : ai < 4) (hbi : bi < 4) (hti : ti < m) (g : Hid (canStep P m 10 d ai bi r l h (ti : Int) true 4 lo hi c u = true)) :
    Calls Try.prog 34 #[.agg #[.slice (some ⟨pb, po, none⟩) m pc], .agg #[.int .i64 10, .int .i64 d, .int .i64 (ai : Int), .int .i64 (bi : Int), .int .i64 r, .int .i64 l, .int .i64 h, .int .i64 (ti : Int)], .agg #[.bool true, .slice (some ⟨sb, off, none⟩) 4 cap, .int .i64 c, .int .i64 u]] w fun e w' => e = .returned (.bool (failB 10 r ai bi ti lo hi P)) ∧ Below w.heap.size w w' := by
  have H : HeldL w [(w.heap.size + 1 + 1, [Value.bool true, .slice (some ⟨sb, off, none⟩) 4 cap, .int .i64 c, .int .i64 u]), (w.heap.size + 1, [Value.int .i64 10, .int .i64 d, .int .i64 (ai : Int), .int .i64 (bi : Int), .int .i64 r, .int .i64 l, .int .i64 h, .int .i64 (ti : Int)]), (w.heap.size, [Value.slice (some ⟨pb, po, none⟩) m pc])] (((w.alloc (.cells #[.slice (some ⟨pb, po, none⟩) m pc] 35)).alloc (.cells #[.int .i64 10, .int .i64 d, .int .i64 (ai : Int), .int .i64 (bi : Int), .int .i64 r, .int .i64 l, .int .i64 h, .int .i64 (ti : Int)] 72)).alloc (.cells #[.bool true, .slice (some ⟨sb, off, none⟩) 4 cap, .int .i64 c, .int .i64 u] 77)) := by
    have e1 : w.heap.size + 1 = (w.alloc (.cells #[.slice (some ⟨pb, po, none⟩) m pc] 35)).heap.size := by simp
    have e2 : w.heap.size + 1 + 1 = ((w.alloc (.cells #[.slice (some ⟨pb, po, none⟩) m pc] 35)).alloc (.cells #[.int .i64 10, .int .i64 d, .int .i64 (ai : Int), .int .i64 (bi : Int), .int .i64 r, .int .i64 l, .int .i64 h, .int .i64 (ti : Int)] 72)).heap.size := by simp
    rw [e2, e1]
    exact HeldL.newL (vs := [Value.bool true, .slice (some ⟨sb, off, none⟩) 4 cap, .int .i64 c, .int .i64 u]) (HeldL.newL (vs := [Value.int .i64 10, .int .i64 d, .int .i64 (ai : Int), .int .i64 (bi : Int), .int .i64 r, .int .i64 l, .int .i64 h, .int .i64 (ti : Int)]) (HeldL.newL (vs := [Value.slice (some ⟨pb, po, none⟩) m pc]) (HeldL.nil w)))
  obtain ⟨Lb, hLb⟩ : ∃ L, L = [(w.heap.size + 1 + 1, [Value.bool true, .slice (some ⟨sb, off, none⟩) 4 cap, .int .i64 c, .int .i64 u]), (w.heap.size + 1, [Value.int .i64 10, .int .i64 d, .int .i64 (ai : Int), .int .i64 (bi : Int), .int .i64 r, .int .i64 l, .int .i64 h, .int .i64 (ti : Int)]), (w.heap.size, [Value.slice (some ⟨pb, po, none⟩) m pc])] := ⟨_, rfl⟩
  have mP : (w.heap.size, [Value.slice (some ⟨pb, po, none⟩) m pc]) ∈ Lb := by rw [hLb]; simp
  have mI : (w.heap.size + 1, [Value.int .i64 10, .int .i64 d, .int .i64 (ai : Int), .int .i64 (bi : Int), .int .i64 r, .int .i64 l, .int .i64 h, .int .i64 (ti : Int)]) ∈ Lb := by rw [hLb]; simp
  have mS : (w.heap.size + 1 + 1, [Value.bool true, .slice (some ⟨sb, off, none⟩) 4 cap, .int .i64 c, .int .i64 u]) ∈ Lb := by rw [hLb]; simp
  rw [← hLb] at H
  clear hLb
  have I := hC.next H.below
  have Q := hP.next H.below
  clear hC hP
  go_enter Try.func34, Try.ntmps34
  go_wp2_with fail
  refine (fitS _ _ _ _ _ _ _ _ _ _ _ _ _ _ _ _ _ _ _ _ _ _ _ _ _ _ hm hN (by omega) Q I).mono ?_
  rintro e w1 ⟨rfl, hb⟩
  rw [g.out]
  replace H := H.next hb
  replace I := I.next hb
  replace Q := Q.next hb
  clear hb
  clear hm hN
  have c0 := H.cell mI (i := 0) rfl
  dsimp only at c0
  have t1ai : ((ai : Int)).toNat = ai := by omega
  have t2ai : (0 : Int) ≤ (ai : Int) := by omega
  have t3ai : (ai : Int) < 4 := by omega
  have t1bi : ((bi : Int)).toNat = bi := by omega
  have t2bi : (0 : Int) ≤ (bi : Int) := by omega
  have t3bi : (bi : Int) < 4 := by omega
  obtain ⟨q, hq'⟩ : ∃ q, itvIn (lo ai) (hi ai) (P ti).lo (P ti).hi = q := ⟨_, rfl⟩
  have hq : Hid (itvIn (lo ai) (hi ai) (P ti).lo (P ti).hi = q) := hq'
  clear hq'
  have hS0 : HX w w1 Lb w1.drew := ⟨H.drew, (Below.refl _ w1).drew⟩
  clear H
  go_wp2_with fail
  refine region_inv3 [(0, 40), (1, 41), (2, 42), (3, 43), (4, 44), (5, 45), (6, 46), (7, 47), (8, 48), (9, 49), (10, 50), (11, 6)]
    (fun j v _ => match j with
      | 0 => Is (.pointer (some ⟨w.heap.size + 1 + 1, 1, none⟩)) v
      | 1 => Is (.slice (some ⟨sb, off, none⟩) 4 cap) v
      | 2 => Is (.pointer (some ⟨w.heap.size + 1, 2, none⟩)) v
      | 3 => Is (.int .i64 ai) v
      | 4 => Is (.pointer (some ⟨sb, off + ai * 2, none⟩)) v
      | 5 => Is (.agg #[.int .i64 (lo ai), .int .i64 (hi ai)]) v
      | 6 => Is (.agg #[.slice (some ⟨pb, po, none⟩) m pc]) v
      | 7 => Is (.agg #[.int .i64 10, .int .i64 d, .int .i64 (ai : Int), .int .i64 (bi : Int), .int .i64 r, .int .i64 l, .int .i64 h, .int .i64 (ti : Int)]) v
      | 8 => Is (.agg #[.int .i64 (P ti).lo, .int .i64 (P ti).hi]) v
      | 9 => Is (.bool q) v
      | 10 => Is (.bool !q) v
      | 11 => Is (.bool !q) v
      | _ => True)
    (fun _ W => HX w w1 Lb W) TT
    (by kernel_rfl) (by kernel_rfl) (by kernel_rfl) (by kernel_rfl) (by kernel_rfl) rfl hS0 (fun i j v W W' _ h _ => h) ?_ ?_
  · intro i L vals W hi' hφ hS hL hd
    have hi2 : i < 12 := hi'
    clear hi'
    rcases (show i = 0 ∨ i = 1 ∨ i = 2 ∨ i = 3 ∨ i = 4 ∨ i = 5 ∨ i = 6 ∨ i = 7 ∨ i = 8 ∨ i = 9 ∨ i = 10 ∨ i = 11 by omega) with rfl | rfl | rfl | rfl | rfl | rfl | rfl | rfl | rfl | rfl | rfl | rfl
    · refine wpAt_of rfl rfl ?_
      simp only [frOf, Act.put]
      go_wp2_with fail
      first | exact ⟨trivial, rfl, trivial, hS⟩ | exact ⟨rfl, trivial, hS⟩ | exact ⟨trivial, rfl, trivial⟩ | exact ⟨rfl, trivial⟩ | exact rfl
    · have k0 : vals 0 = .pointer (some ⟨w.heap.size + 1 + 1, 1, none⟩) := hφ 0 (hd 0 (by decide))
      have c1 := hS.cell mS (i := 1) rfl
      dsimp only at c1
      refine wpAt_of rfl rfl ?_
      simp only [frOf, Act.put]
      go_wp2_with fail
      first | exact ⟨trivial, rfl, trivial, hS⟩ | exact ⟨rfl, trivial, hS⟩ | exact ⟨trivial, rfl, trivial⟩ | exact ⟨rfl, trivial⟩ | exact rfl
    · refine wpAt_of rfl rfl ?_
      simp only [frOf, Act.put]
      go_wp2_with fail
      first | exact ⟨trivial, rfl, trivial, hS⟩ | exact ⟨rfl, trivial, hS⟩ | exact ⟨trivial, rfl, trivial⟩ | exact ⟨rfl, trivial⟩ | exact rfl
    · have k2 : vals 2 = .pointer (some ⟨w.heap.size + 1, 2, none⟩) := hφ 2 (hd 2 (by decide))
      have c2 := hS.cell mI (i := 2) rfl
      dsimp only at c2
      refine wpAt_of rfl rfl ?_
      simp only [frOf, Act.put]
      go_wp2_with fail
      first | exact ⟨trivial, rfl, trivial, hS⟩ | exact ⟨rfl, trivial, hS⟩ | exact ⟨trivial, rfl, trivial⟩ | exact ⟨rfl, trivial⟩ | exact rfl
    · have k1 : vals 1 = .slice (some ⟨sb, off, none⟩) 4 cap := hφ 1 (hd 1 (by decide))
      have k3 : vals 3 = .int .i64 ai := hφ 3 (hd 3 (by decide))
      refine wpAt_of rfl rfl ?_
      simp only [frOf, Act.put]
      go_wp2_with fail
      first | exact ⟨trivial, rfl, trivial, hS⟩ | exact ⟨rfl, trivial, hS⟩ | exact ⟨trivial, rfl, trivial⟩ | exact ⟨rfl, trivial⟩ | exact rfl
    · have k4 : vals 4 = .pointer (some ⟨sb, off + ai * 2, none⟩) := hφ 4 (hd 4 (by decide))
      have dd := I.next hS.beh
      have d0 := dd.lo ai hai
      have d1 := dd.hi ai hai
      clear dd
      refine wpAt_of rfl rfl ?_
      simp only [frOf, Act.put]
      go_wp2_with fail
      first | exact ⟨trivial, rfl, trivial, hS⟩ | exact ⟨rfl, trivial, hS⟩ | exact ⟨trivial, rfl, trivial⟩ | exact ⟨rfl, trivial⟩ | exact rfl
    · have y0 := hS.cell mP (i := 0) rfl
      dsimp only at y0
      refine wpAt_of rfl rfl ?_
      simp only [frOf, Act.put]
      go_wp2_with fail
      first | exact ⟨trivial, rfl, trivial, hS⟩ | exact ⟨rfl, trivial, hS⟩ | exact ⟨trivial, rfl, trivial⟩ | exact ⟨rfl, trivial⟩ | exact rfl
    · have x0 := hS.cell mI (i := 0) rfl
      have x1 := hS.cell mI (i := 1) rfl
      have x2 := hS.cell mI (i := 2) rfl
      have x3 := hS.cell mI (i := 3) rfl
      have x4 := hS.cell mI (i := 4) rfl
      have x5 := hS.cell mI (i := 5) rfl
      have x6 := hS.cell mI (i := 6) rfl
      have x7 := hS.cell mI (i := 7) rfl
      dsimp only at x0 x1 x2 x3 x4 x5 x6 x7
      refine wpAt_of rfl rfl ?_
      simp only [frOf, Act.put]
      go_wp2_with fail
      first | exact ⟨trivial, rfl, trivial, hS⟩ | exact ⟨rfl, trivial, hS⟩ | exact ⟨trivial, rfl, trivial⟩ | exact ⟨rfl, trivial⟩ | exact rfl
    · have k6 : vals 6 = .agg #[.slice (some ⟨pb, po, none⟩) m pc] := hφ 6 (hd 6 (by decide))
      have k7 : vals 7 = .agg #[.int .i64 10, .int .i64 d, .int .i64 (ai : Int), .int .i64 (bi : Int), .int .i64 r, .int .i64 l, .int .i64 h, .int .i64 (ti : Int)] := hφ 7 (hd 7 (by decide))
      refine wpAt_of rfl rfl ?_
      simp only [frOf, Act.put]
      go_wp2_with fail
      refine (givenS _ _ _ _ _ _ _ _ _ _ _ _ _ _ _ _ hti (Q.next hS.beh)).mono ?_
      rintro e W' ⟨rfl, hb⟩
      go_wp2_with fail
      first | exact ⟨trivial, rfl, trivial, HX.next hb hS⟩ | exact ⟨rfl, trivial, HX.next hb hS⟩ | exact ⟨trivial, rfl, trivial⟩ | exact ⟨rfl, trivial⟩ | exact rfl
    · have k5 : vals 5 = .agg #[.int .i64 (lo ai), .int .i64 (hi ai)] := hφ 5 (hd 5 (by decide))
      have k8 : vals 8 = .agg #[.int .i64 (P ti).lo, .int .i64 (P ti).hi] := hφ 8 (hd 8 (by decide))
      refine wpAt_of rfl rfl ?_
      simp only [frOf, Act.put]
      go_wp2_with fail
      refine (itvInS _ _ _ _ _).mono ?_
      rintro e W' ⟨rfl, hb⟩
      rw [hq.out]
      go_wp2_with fail
      first | exact ⟨trivial, rfl, trivial, HX.next hb hS⟩ | exact ⟨rfl, trivial, HX.next hb hS⟩ | exact ⟨trivial, rfl, trivial⟩ | exact ⟨rfl, trivial⟩ | exact rfl
    · have k9 : vals 9 = .bool q := hφ 9 (hd 9 (by decide))
      refine wpAt_of rfl rfl ?_
      simp only [frOf, Act.put]
      go_wp2_with fail
      first | exact ⟨trivial, rfl, trivial, hS⟩ | exact ⟨rfl, trivial, hS⟩ | exact ⟨trivial, rfl, trivial⟩ | exact ⟨rfl, trivial⟩ | exact rfl
    · have k10 : vals 10 = .bool !q := hφ 10 (hd 10 (by decide))
      refine wpAt_of rfl rfl ?_
      simp only [frOf, Act.put]
      go_wp2_with fail
      first | exact ⟨trivial, rfl, trivial, hS⟩ | exact ⟨rfl, trivial, hS⟩ | exact ⟨trivial, rfl, trivial⟩ | exact ⟨rfl, trivial⟩ | exact rfl
  · intro L vals W hall hφ hS
    have k0 : vals 0 = .pointer (some ⟨w.heap.size + 1 + 1, 1, none⟩) := hφ 0 (by decide)
    have k1 : vals 1 = .slice (some ⟨sb, off, none⟩) 4 cap := hφ 1 (by decide)
    have k2 : vals 2 = .pointer (some ⟨w.heap.size + 1, 2, none⟩) := hφ 2 (by decide)
    have k3 : vals 3 = .int .i64 ai := hφ 3 (by decide)
    have k4 : vals 4 = .pointer (some ⟨sb, off + ai * 2, none⟩) := hφ 4 (by decide)
    have k5 : vals 5 = .agg #[.int .i64 (lo ai), .int .i64 (hi ai)] := hφ 5 (by decide)
    have k6 : vals 6 = .agg #[.slice (some ⟨pb, po, none⟩) m pc] := hφ 6 (by decide)
    have k7 : vals 7 = .agg #[.int .i64 10, .int .i64 d, .int .i64 (ai : Int), .int .i64 (bi : Int), .int .i64 r, .int .i64 l, .int .i64 h, .int .i64 (ti : Int)] := hφ 7 (by decide)
    have k8 : vals 8 = .agg #[.int .i64 (P ti).lo, .int .i64 (P ti).hi] := hφ 8 (by decide)
    have k9 : vals 9 = .bool q := hφ 9 (by decide)
    have k10 : vals 10 = .bool !q := hφ 10 (by decide)
    have k11 : vals 11 = .bool !q := hφ 11 (by decide)
    simp only [frOf, Act.put, List.setIfInBounds_toArray, List.set_cons_succ, List.set_cons_zero, k0, k1, k2, k3, k4, k5, k6, k7, k8, k9, k10, k11]
    clear k0 k1 k2 k3 k4 k5 k6 k7 k8 k9 k10 k11 hall hφ hS0
    have H := hS.1
    go_wp2_with fail
    go_ret
    exact ⟨ret_bool (by rw [← hq.out]; simp [failB]), H.below⟩
set_option maxRecDepth 10000 in
set_option maxHeartbeats 8000000 in
theorem absFailsS_11 (pa : Option Addr) (pb po m pc : Nat) (P : Nat → Proc) (S : Nat → Spot) (d : Int) (ai bi : Nat) (r l h t : Int) (sb off cap : Nat) (lo hi : Nat → Int) (c u : Int) (w : World) (hm : m ≤ 1048576) (hN : ∀ i, i < m → (P i).n ≤ 1048576) (hP : ProcsAt pa pb po m P S w) (hC : BndsAt (some ⟨sb, off, none⟩) sb off 4 lo hi w) (hai : ai < 4) (hbi : bi < 4) (g : Hid (canStep P m 11 d ai bi r l h t true 4 lo hi c u = true)) :
    Calls Try.prog 34 #[.agg #[.slice pa m pc], .agg #[.int .i64 11, .int .i64 d, .int .i64 (ai : Int), .int .i64 (bi : Int), .int .i64 r, .int .i64 l, .int .i64 h, .int .i64 t], .agg #[.bool true, .slice (some ⟨sb, off, none⟩) 4 cap, .int .i64 c, .int .i64 u]] w fun e w' => e = .returned (.bool (failB 11 r ai bi t.toNat lo hi P)) ∧ Below w.heap.size w w' := by
  have H : HeldL w [(w.heap.size + 1 + 1, [Value.bool true, .slice (some ⟨sb, off, none⟩) 4 cap, .int .i64 c, .int .i64 u]), (w.heap.size + 1, [Value.int .i64 11, .int .i64 d, .int .i64 (ai : Int), .int .i64 (bi : Int), .int .i64 r, .int .i64 l, .int .i64 h, .int .i64 t]), (w.heap.size, [Value.slice pa m pc])] (((w.alloc (.cells #[.slice pa m pc] 35)).alloc (.cells #[.int .i64 11, .int .i64 d, .int .i64 (ai : Int), .int .i64 (bi : Int), .int .i64 r, .int .i64 l, .int .i64 h, .int .i64 t] 72)).alloc (.cells #[.bool true, .slice (some ⟨sb, off, none⟩) 4 cap, .int .i64 c, .int .i64 u] 77)) := by
    have e1 : w.heap.size + 1 = (w.alloc (.cells #[.slice pa m pc] 35)).heap.size := by simp
    have e2 : w.heap.size + 1 + 1 = ((w.alloc (.cells #[.slice pa m pc] 35)).alloc (.cells #[.int .i64 11, .int .i64 d, .int .i64 (ai : Int), .int .i64 (bi : Int), .int .i64 r, .int .i64 l, .int .i64 h, .int .i64 t] 72)).heap.size := by simp
    rw [e2, e1]
    exact HeldL.newL (vs := [Value.bool true, .slice (some ⟨sb, off, none⟩) 4 cap, .int .i64 c, .int .i64 u]) (HeldL.newL (vs := [Value.int .i64 11, .int .i64 d, .int .i64 (ai : Int), .int .i64 (bi : Int), .int .i64 r, .int .i64 l, .int .i64 h, .int .i64 t]) (HeldL.newL (vs := [Value.slice pa m pc]) (HeldL.nil w)))
  obtain ⟨Lb, hLb⟩ : ∃ L, L = [(w.heap.size + 1 + 1, [Value.bool true, .slice (some ⟨sb, off, none⟩) 4 cap, .int .i64 c, .int .i64 u]), (w.heap.size + 1, [Value.int .i64 11, .int .i64 d, .int .i64 (ai : Int), .int .i64 (bi : Int), .int .i64 r, .int .i64 l, .int .i64 h, .int .i64 t]), (w.heap.size, [Value.slice pa m pc])] := ⟨_, rfl⟩
  have mP : (w.heap.size, [Value.slice pa m pc]) ∈ Lb := by rw [hLb]; simp
  have mI : (w.heap.size + 1, [Value.int .i64 11, .int .i64 d, .int .i64 (ai : Int), .int .i64 (bi : Int), .int .i64 r, .int .i64 l, .int .i64 h, .int .i64 t]) ∈ Lb := by rw [hLb]; simp
  have mS : (w.heap.size + 1 + 1, [Value.bool true, .slice (some ⟨sb, off, none⟩) 4 cap, .int .i64 c, .int .i64 u]) ∈ Lb := by rw [hLb]; simp
  rw [← hLb] at H
  clear hLb
  have I := hC.next H.below
  have Q := hP.next H.below
  clear hC hP
  go_enter Try.func34, Try.ntmps34
  go_wp2_with fail
  refine (fitS _ _ _ _ _ _ _ _ _ _ _ _ _ _ _ _ _ _ _ _ _ _ _ _ _ _ hm hN (by omega) Q I).mono ?_
  rintro e w1 ⟨rfl, hb⟩
  rw [g.out]
  replace H := H.next hb
  replace I := I.next hb
  replace Q := Q.next hb
  clear hb
  clear hm hN
  have c0 := H.cell mI (i := 0) rfl
  dsimp only at c0
  have t1ai : ((ai : Int)).toNat = ai := by omega
  have t2ai : (0 : Int) ≤ (ai : Int) := by omega
  have t3ai : (ai : Int) < 4 := by omega
  have t1bi : ((bi : Int)).toNat = bi := by omega
  have t2bi : (0 : Int) ≤ (bi : Int) := by omega
  have t3bi : (bi : Int) < 4 := by omega
  obtain ⟨q, hq'⟩ : ∃ q, itvNot r (lo ai) (hi ai) (lo bi) (hi bi) = q := ⟨_, rfl⟩
  have hq : Hid (itvNot r (lo ai) (hi ai) (lo bi) (hi bi) = q) := hq'
  clear hq'
  have hS0 : HX w w1 Lb w1.drew := ⟨H.drew, (Below.refl _ w1).drew⟩
  have hN1 : ∀ e ∈ Lb, e.1 < w1.heap.size := fun e he => HeldL.size H he
  have hN2 : w.heap.size ≤ w1.heap.size := H.below.size
  clear H
  go_wp2_with fail
  refine region_inv4 [(0, 54), (1, 55), (2, 56), (3, 57), (4, 58), (5, 59), (6, 60), (7, 61), (8, 62), (9, 63), (10, 64), (11, 65), (12, 66), (13, 67), (14, 68), (15, 53), (16, 69), (17, 70), (18, 71), (19, 7), (20, 8), (23, 9)]
    (fun j v => match j with
      | 0 => Is (.pointer (some ⟨w.heap.size + 1, 4, none⟩)) v
      | 1 => Is (.int .i64 r) v
      | 2 => Is (.pointer (some ⟨w.heap.size + 1 + 1, 1, none⟩)) v
      | 3 => Is (.slice (some ⟨sb, off, none⟩) 4 cap) v
      | 4 => Is (.pointer (some ⟨w.heap.size + 1, 2, none⟩)) v
      | 5 => Is (.int .i64 ai) v
      | 6 => Is (.pointer (some ⟨sb, off + ai * 2, none⟩)) v
      | 7 => Is (.agg #[.int .i64 (lo ai), .int .i64 (hi ai)]) v
      | 8 => Is (.pointer (some ⟨w.heap.size + 1 + 1, 1, none⟩)) v
      | 9 => Is (.slice (some ⟨sb, off, none⟩) 4 cap) v
      | 10 => Is (.pointer (some ⟨w.heap.size + 1, 3, none⟩)) v
      | 11 => Is (.int .i64 bi) v
      | 12 => Is (.pointer (some ⟨sb, off + bi * 2, none⟩)) v
      | 13 => Is (.agg #[.int .i64 (lo bi), .int .i64 (hi bi)]) v
      | 14 => Is (.tuple #[.agg #[.int .i64 q.l0, .int .i64 q.h0], .agg #[.int .i64 q.l1, .int .i64 q.h1], .bool q.ok]) v
      | 15 => Is (.tuple #[.agg #[.int .i64 q.l0, .int .i64 q.h0], .agg #[.int .i64 q.l1, .int .i64 q.h1], .bool q.ok]) v
      | 16 => Is (.agg #[.int .i64 q.l0, .int .i64 q.h0]) v
      | 17 => Is (.agg #[.int .i64 q.l1, .int .i64 q.h1]) v
      | 18 => Is (.bool q.ok) v
      | 23 => Is (.bool q.ok) v
      | _ => True)
    (fun L vals W => HX w w1 Lb W ∧ Mk2 w1.heap.size 19 L vals W ∧ Mk2 w1.heap.size 20 L vals W)
    (by kernel_rfl) (by kernel_rfl) (by kernel_rfl) (by kernel_rfl) (by kernel_rfl) rfl (fun _ => ⟨hS0, Mk2.start (Nat.le_refl _), Mk2.start (Nat.le_refl _)⟩) ?_ ?_
  · intro i L vals W hi' hφ hSS hL hd
    have hi2 : i < 24 := hi'
    obtain ⟨hS, hB19, hB20⟩ := hSS
    clear hi'
    rcases (show i = 0 ∨ i = 1 ∨ i = 2 ∨ i = 3 ∨ i = 4 ∨ i = 5 ∨ i = 6 ∨ i = 7 ∨ i = 8 ∨ i = 9 ∨ i = 10 ∨ i = 11 ∨ i = 12 ∨ i = 13 ∨ i = 14 ∨ i = 15 ∨ i = 16 ∨ i = 17 ∨ i = 18 ∨ i = 19 ∨ i = 20 ∨ i = 21 ∨ i = 22 ∨ i = 23 by omega) with rfl | rfl | rfl | rfl | rfl | rfl | rfl | rfl | rfl | rfl | rfl | rfl | rfl | rfl | rfl | rfl | rfl | rfl | rfl | rfl | rfl | rfl | rfl | rfl
    · refine wpAt_of rfl rfl ?_
      simp only [frOf, Act.put]
      go_wp2_with fail
      first | exact ⟨trivial, rfl, hS, hB19.next (Below.refl _ _) (by decide), hB20.next (Below.refl _ _) (by decide)⟩ | exact ⟨rfl, hS, hB19.next (Below.refl _ _) (by decide), hB20.next (Below.refl _ _) (by decide)⟩ | exact ⟨trivial, trivial, rfl, hS, hB19.next (Below.refl _ _) (by decide), hB20.next (Below.refl _ _) (by decide)⟩
    · have k0 : vals 0 = .pointer (some ⟨w.heap.size + 1, 4, none⟩) := hφ 0 (hd 0 (by decide))
      have c4 := hS.cell mI (i := 4) rfl
      dsimp only at c4
      refine wpAt_of rfl rfl ?_
      simp only [frOf, Act.put]
      go_wp2_with fail
      first | exact ⟨trivial, rfl, hS, hB19.next (Below.refl _ _) (by decide), hB20.next (Below.refl _ _) (by decide)⟩ | exact ⟨rfl, hS, hB19.next (Below.refl _ _) (by decide), hB20.next (Below.refl _ _) (by decide)⟩ | exact ⟨trivial, trivial, rfl, hS, hB19.next (Below.refl _ _) (by decide), hB20.next (Below.refl _ _) (by decide)⟩
    · refine wpAt_of rfl rfl ?_
      simp only [frOf, Act.put]
      go_wp2_with fail
      first | exact ⟨trivial, rfl, hS, hB19.next (Below.refl _ _) (by decide), hB20.next (Below.refl _ _) (by decide)⟩ | exact ⟨rfl, hS, hB19.next (Below.refl _ _) (by decide), hB20.next (Below.refl _ _) (by decide)⟩ | exact ⟨trivial, trivial, rfl, hS, hB19.next (Below.refl _ _) (by decide), hB20.next (Below.refl _ _) (by decide)⟩
    · have k2 : vals 2 = .pointer (some ⟨w.heap.size + 1 + 1, 1, none⟩) := hφ 2 (hd 2 (by decide))
      have c1 := hS.cell mS (i := 1) rfl
      dsimp only at c1
      refine wpAt_of rfl rfl ?_
      simp only [frOf, Act.put]
      go_wp2_with fail
      first | exact ⟨trivial, rfl, hS, hB19.next (Below.refl _ _) (by decide), hB20.next (Below.refl _ _) (by decide)⟩ | exact ⟨rfl, hS, hB19.next (Below.refl _ _) (by decide), hB20.next (Below.refl _ _) (by decide)⟩ | exact ⟨trivial, trivial, rfl, hS, hB19.next (Below.refl _ _) (by decide), hB20.next (Below.refl _ _) (by decide)⟩
    · refine wpAt_of rfl rfl ?_
      simp only [frOf, Act.put]
      go_wp2_with fail
      first | exact ⟨trivial, rfl, hS, hB19.next (Below.refl _ _) (by decide), hB20.next (Below.refl _ _) (by decide)⟩ | exact ⟨rfl, hS, hB19.next (Below.refl _ _) (by decide), hB20.next (Below.refl _ _) (by decide)⟩ | exact ⟨trivial, trivial, rfl, hS, hB19.next (Below.refl _ _) (by decide), hB20.next (Below.refl _ _) (by decide)⟩
    · have k4 : vals 4 = .pointer (some ⟨w.heap.size + 1, 2, none⟩) := hφ 4 (hd 4 (by decide))
      have c2 := hS.cell mI (i := 2) rfl
      dsimp only at c2
      refine wpAt_of rfl rfl ?_
      simp only [frOf, Act.put]
      go_wp2_with fail
      first | exact ⟨trivial, rfl, hS, hB19.next (Below.refl _ _) (by decide), hB20.next (Below.refl _ _) (by decide)⟩ | exact ⟨rfl, hS, hB19.next (Below.refl _ _) (by decide), hB20.next (Below.refl _ _) (by decide)⟩ | exact ⟨trivial, trivial, rfl, hS, hB19.next (Below.refl _ _) (by decide), hB20.next (Below.refl _ _) (by decide)⟩
    · have k3 : vals 3 = .slice (some ⟨sb, off, none⟩) 4 cap := hφ 3 (hd 3 (by decide))
      have k5 : vals 5 = .int .i64 ai := hφ 5 (hd 5 (by decide))
      refine wpAt_of rfl rfl ?_
      simp only [frOf, Act.put]
      go_wp2_with fail
      first | exact ⟨trivial, rfl, hS, hB19.next (Below.refl _ _) (by decide), hB20.next (Below.refl _ _) (by decide)⟩ | exact ⟨rfl, hS, hB19.next (Below.refl _ _) (by decide), hB20.next (Below.refl _ _) (by decide)⟩ | exact ⟨trivial, trivial, rfl, hS, hB19.next (Below.refl _ _) (by decide), hB20.next (Below.refl _ _) (by decide)⟩
    · have k6 : vals 6 = .pointer (some ⟨sb, off + ai * 2, none⟩) := hφ 6 (hd 6 (by decide))
      have dd := I.next hS.beh
      have d0 := dd.lo ai hai
      have d1 := dd.hi ai hai
      clear dd
      refine wpAt_of rfl rfl ?_
      simp only [frOf, Act.put]
      go_wp2_with fail
      first | exact ⟨trivial, rfl, hS, hB19.next (Below.refl _ _) (by decide), hB20.next (Below.refl _ _) (by decide)⟩ | exact ⟨rfl, hS, hB19.next (Below.refl _ _) (by decide), hB20.next (Below.refl _ _) (by decide)⟩ | exact ⟨trivial, trivial, rfl, hS, hB19.next (Below.refl _ _) (by decide), hB20.next (Below.refl _ _) (by decide)⟩
    · refine wpAt_of rfl rfl ?_
      simp only [frOf, Act.put]
      go_wp2_with fail
      first | exact ⟨trivial, rfl, hS, hB19.next (Below.refl _ _) (by decide), hB20.next (Below.refl _ _) (by decide)⟩ | exact ⟨rfl, hS, hB19.next (Below.refl _ _) (by decide), hB20.next (Below.refl _ _) (by decide)⟩ | exact ⟨trivial, trivial, rfl, hS, hB19.next (Below.refl _ _) (by decide), hB20.next (Below.refl _ _) (by decide)⟩
    · have k8 : vals 8 = .pointer (some ⟨w.heap.size + 1 + 1, 1, none⟩) := hφ 8 (hd 8 (by decide))
      have c1 := hS.cell mS (i := 1) rfl
      dsimp only at c1
      refine wpAt_of rfl rfl ?_
      simp only [frOf, Act.put]
      go_wp2_with fail
      first | exact ⟨trivial, rfl, hS, hB19.next (Below.refl _ _) (by decide), hB20.next (Below.refl _ _) (by decide)⟩ | exact ⟨rfl, hS, hB19.next (Below.refl _ _) (by decide), hB20.next (Below.refl _ _) (by decide)⟩ | exact ⟨trivial, trivial, rfl, hS, hB19.next (Below.refl _ _) (by decide), hB20.next (Below.refl _ _) (by decide)⟩
    · refine wpAt_of rfl rfl ?_
      simp only [frOf, Act.put]
      go_wp2_with fail
      first | exact ⟨trivial, rfl, hS, hB19.next (Below.refl _ _) (by decide), hB20.next (Below.refl _ _) (by decide)⟩ | exact ⟨rfl, hS, hB19.next (Below.refl _ _) (by decide), hB20.next (Below.refl _ _) (by decide)⟩ | exact ⟨trivial, trivial, rfl, hS, hB19.next (Below.refl _ _) (by decide), hB20.next (Below.refl _ _) (by decide)⟩
    · have k10 : vals 10 = .pointer (some ⟨w.heap.size + 1, 3, none⟩) := hφ 10 (hd 10 (by decide))
      have c3 := hS.cell mI (i := 3) rfl
      dsimp only at c3
      refine wpAt_of rfl rfl ?_
      simp only [frOf, Act.put]
      go_wp2_with fail
      first | exact ⟨trivial, rfl, hS, hB19.next (Below.refl _ _) (by decide), hB20.next (Below.refl _ _) (by decide)⟩ | exact ⟨rfl, hS, hB19.next (Below.refl _ _) (by decide), hB20.next (Below.refl _ _) (by decide)⟩ | exact ⟨trivial, trivial, rfl, hS, hB19.next (Below.refl _ _) (by decide), hB20.next (Below.refl _ _) (by decide)⟩
    · have k9 : vals 9 = .slice (some ⟨sb, off, none⟩) 4 cap := hφ 9 (hd 9 (by decide))
      have k11 : vals 11 = .int .i64 bi := hφ 11 (hd 11 (by decide))
      refine wpAt_of rfl rfl ?_
      simp only [frOf, Act.put]
      go_wp2_with fail
      first | exact ⟨trivial, rfl, hS, hB19.next (Below.refl _ _) (by decide), hB20.next (Below.refl _ _) (by decide)⟩ | exact ⟨rfl, hS, hB19.next (Below.refl _ _) (by decide), hB20.next (Below.refl _ _) (by decide)⟩ | exact ⟨trivial, trivial, rfl, hS, hB19.next (Below.refl _ _) (by decide), hB20.next (Below.refl _ _) (by decide)⟩
    · have k12 : vals 12 = .pointer (some ⟨sb, off + bi * 2, none⟩) := hφ 12 (hd 12 (by decide))
      have dd := I.next hS.beh
      have d0 := dd.lo bi hbi
      have d1 := dd.hi bi hbi
      clear dd
      refine wpAt_of rfl rfl ?_
      simp only [frOf, Act.put]
      go_wp2_with fail
      first | exact ⟨trivial, rfl, hS, hB19.next (Below.refl _ _) (by decide), hB20.next (Below.refl _ _) (by decide)⟩ | exact ⟨rfl, hS, hB19.next (Below.refl _ _) (by decide), hB20.next (Below.refl _ _) (by decide)⟩ | exact ⟨trivial, trivial, rfl, hS, hB19.next (Below.refl _ _) (by decide), hB20.next (Below.refl _ _) (by decide)⟩
    · have k1 : vals 1 = .int .i64 r := hφ 1 (hd 1 (by decide))
      have k7 : vals 7 = .agg #[.int .i64 (lo ai), .int .i64 (hi ai)] := hφ 7 (hd 7 (by decide))
      have k13 : vals 13 = .agg #[.int .i64 (lo bi), .int .i64 (hi bi)] := hφ 13 (hd 13 (by decide))
      refine wpAt_of rfl rfl ?_
      simp only [frOf, Act.put]
      go_wp2_with fail
      refine (itvNotS _ _ _ _ _ _).mono ?_
      rintro e W' ⟨rfl, hb⟩
      rw [hq.out]
      go_wp2_with fail
      first | exact ⟨trivial, rfl, HX.next hb hS, hB19.next hb (by decide), hB20.next hb (by decide)⟩ | exact ⟨rfl, HX.next hb hS, hB19.next hb (by decide), hB20.next hb (by decide)⟩ | exact ⟨trivial, trivial, rfl, HX.next hb hS, hB19.next hb (by decide), hB20.next hb (by decide)⟩
    · have k14 : vals 14 = .tuple #[.agg #[.int .i64 q.l0, .int .i64 q.h0], .agg #[.int .i64 q.l1, .int .i64 q.h1], .bool q.ok] := hφ 14 (hd 14 (by decide))
      refine wpAt_of rfl rfl ?_
      simp only [frOf, Act.put]
      go_wp2_with fail
      first | exact ⟨trivial, rfl, hS, hB19.next (Below.refl _ _) (by decide), hB20.next (Below.refl _ _) (by decide)⟩ | exact ⟨rfl, hS, hB19.next (Below.refl _ _) (by decide), hB20.next (Below.refl _ _) (by decide)⟩ | exact ⟨trivial, trivial, rfl, hS, hB19.next (Below.refl _ _) (by decide), hB20.next (Below.refl _ _) (by decide)⟩
    · have k15 : vals 15 = .tuple #[.agg #[.int .i64 q.l0, .int .i64 q.h0], .agg #[.int .i64 q.l1, .int .i64 q.h1], .bool q.ok] := hφ 15 (hd 15 (by decide))
      refine wpAt_of rfl rfl ?_
      simp only [frOf, Act.put]
      go_wp2_with fail
      first | exact ⟨trivial, rfl, hS, hB19.next (Below.refl _ _) (by decide), hB20.next (Below.refl _ _) (by decide)⟩ | exact ⟨rfl, hS, hB19.next (Below.refl _ _) (by decide), hB20.next (Below.refl _ _) (by decide)⟩ | exact ⟨trivial, trivial, rfl, hS, hB19.next (Below.refl _ _) (by decide), hB20.next (Below.refl _ _) (by decide)⟩
    · have k15 : vals 15 = .tuple #[.agg #[.int .i64 q.l0, .int .i64 q.h0], .agg #[.int .i64 q.l1, .int .i64 q.h1], .bool q.ok] := hφ 15 (hd 15 (by decide))
      refine wpAt_of rfl rfl ?_
      simp only [frOf, Act.put]
      go_wp2_with fail
      first | exact ⟨trivial, rfl, hS, hB19.next (Below.refl _ _) (by decide), hB20.next (Below.refl _ _) (by decide)⟩ | exact ⟨rfl, hS, hB19.next (Below.refl _ _) (by decide), hB20.next (Below.refl _ _) (by decide)⟩ | exact ⟨trivial, trivial, rfl, hS, hB19.next (Below.refl _ _) (by decide), hB20.next (Below.refl _ _) (by decide)⟩
    · have k15 : vals 15 = .tuple #[.agg #[.int .i64 q.l0, .int .i64 q.h0], .agg #[.int .i64 q.l1, .int .i64 q.h1], .bool q.ok] := hφ 15 (hd 15 (by decide))
      refine wpAt_of rfl rfl ?_
      simp only [frOf, Act.put]
      go_wp2_with fail
      first | exact ⟨trivial, rfl, hS, hB19.next (Below.refl _ _) (by decide), hB20.next (Below.refl _ _) (by decide)⟩ | exact ⟨rfl, hS, hB19.next (Below.refl _ _) (by decide), hB20.next (Below.refl _ _) (by decide)⟩ | exact ⟨trivial, trivial, rfl, hS, hB19.next (Below.refl _ _) (by decide), hB20.next (Below.refl _ _) (by decide)⟩
    · refine wpAt_of rfl rfl ?_
      simp only [frOf, Act.put]
      go_wp2_with fail
      first | exact ⟨trivial, HX.alloc _ hS, hB19.made hL, hB20.next ((Below.refl _ _).alloc (Nat.le_refl _) _) (by decide)⟩ | exact ⟨HX.alloc _ hS, hB19.made hL, hB20.next ((Below.refl _ _).alloc (Nat.le_refl _) _) (by decide)⟩ | exact ⟨trivial, trivial, HX.alloc _ hS, hB19.made hL, hB20.next ((Below.refl _ _).alloc (Nat.le_refl _) _) (by decide)⟩
    · refine wpAt_of rfl rfl ?_
      simp only [frOf, Act.put]
      go_wp2_with fail
      first | exact ⟨trivial, HX.alloc _ hS, hB19.next ((Below.refl _ _).alloc (Nat.le_refl _) _) (by decide), hB20.made hL⟩ | exact ⟨HX.alloc _ hS, hB19.next ((Below.refl _ _).alloc (Nat.le_refl _) _) (by decide), hB20.made hL⟩ | exact ⟨trivial, trivial, HX.alloc _ hS, hB19.next ((Below.refl _ _).alloc (Nat.le_refl _) _) (by decide), hB20.made hL⟩
    · have k16 : vals 16 = .agg #[.int .i64 q.l0, .int .i64 q.h0] := hφ 16 (hd 16 (by decide))
      obtain ⟨b, kb, hb1, hbf, c0, c1, _⟩ := hB19.2 (hd 19 (by decide))
      obtain ⟨u0, cc0⟩ := Option.isSome_iff_exists.1 c0
      obtain ⟨u1, cc1⟩ := Option.isSome_iff_exists.1 c1
      refine wpAt_none rfl rfl ?_
      simp only [frOf, Act.put]
      go_wp2_with fail
      first | exact ⟨trivial, HX.setAll hN1 hN2 (Nat.le_refl _) hb1 [Value.int .i64 q.l0, .int .i64 q.h0] 0 hS, hB19.store (by decide), hB20.store (by decide)⟩ | exact ⟨HX.setAll hN1 hN2 (Nat.le_refl _) hb1 [Value.int .i64 q.l0, .int .i64 q.h0] 0 hS, hB19.store (by decide), hB20.store (by decide)⟩ | exact ⟨trivial, trivial, HX.setAll hN1 hN2 (Nat.le_refl _) hb1 [Value.int .i64 q.l0, .int .i64 q.h0] 0 hS, hB19.store (by decide), hB20.store (by decide)⟩
    · have k17 : vals 17 = .agg #[.int .i64 q.l1, .int .i64 q.h1] := hφ 17 (hd 17 (by decide))
      obtain ⟨b, kb, hb1, hbf, c0, c1, _⟩ := hB20.2 (hd 20 (by decide))
      obtain ⟨u0, cc0⟩ := Option.isSome_iff_exists.1 c0
      obtain ⟨u1, cc1⟩ := Option.isSome_iff_exists.1 c1
      refine wpAt_none rfl rfl ?_
      simp only [frOf, Act.put]
      go_wp2_with fail
      first | exact ⟨trivial, HX.setAll hN1 hN2 (Nat.le_refl _) hb1 [Value.int .i64 q.l1, .int .i64 q.h1] 0 hS, hB19.store (by decide), hB20.store (by decide)⟩ | exact ⟨HX.setAll hN1 hN2 (Nat.le_refl _) hb1 [Value.int .i64 q.l1, .int .i64 q.h1] 0 hS, hB19.store (by decide), hB20.store (by decide)⟩ | exact ⟨trivial, trivial, HX.setAll hN1 hN2 (Nat.le_refl _) hb1 [Value.int .i64 q.l1, .int .i64 q.h1] 0 hS, hB19.store (by decide), hB20.store (by decide)⟩
    · have k18 : vals 18 = .bool q.ok := hφ 18 (hd 18 (by decide))
      refine wpAt_of rfl rfl ?_
      simp only [frOf, Act.put]
      go_wp2_with fail
      first | exact ⟨trivial, rfl, hS, hB19.next (Below.refl _ _) (by decide), hB20.next (Below.refl _ _) (by decide)⟩ | exact ⟨rfl, hS, hB19.next (Below.refl _ _) (by decide), hB20.next (Below.refl _ _) (by decide)⟩ | exact ⟨trivial, trivial, rfl, hS, hB19.next (Below.refl _ _) (by decide), hB20.next (Below.refl _ _) (by decide)⟩
  · intro L vals W hall hφ hSS
    obtain ⟨hS, hB19, hB20⟩ := hSS
    have k0 : vals 0 = .pointer (some ⟨w.heap.size + 1, 4, none⟩) := hφ 0 (by decide)
    have k1 : vals 1 = .int .i64 r := hφ 1 (by decide)
    have k2 : vals 2 = .pointer (some ⟨w.heap.size + 1 + 1, 1, none⟩) := hφ 2 (by decide)
    have k3 : vals 3 = .slice (some ⟨sb, off, none⟩) 4 cap := hφ 3 (by decide)
    have k4 : vals 4 = .pointer (some ⟨w.heap.size + 1, 2, none⟩) := hφ 4 (by decide)
    have k5 : vals 5 = .int .i64 ai := hφ 5 (by decide)
    have k6 : vals 6 = .pointer (some ⟨sb, off + ai * 2, none⟩) := hφ 6 (by decide)
    have k7 : vals 7 = .agg #[.int .i64 (lo ai), .int .i64 (hi ai)] := hφ 7 (by decide)
    have k8 : vals 8 = .pointer (some ⟨w.heap.size + 1 + 1, 1, none⟩) := hφ 8 (by decide)
    have k9 : vals 9 = .slice (some ⟨sb, off, none⟩) 4 cap := hφ 9 (by decide)
    have k10 : vals 10 = .pointer (some ⟨w.heap.size + 1, 3, none⟩) := hφ 10 (by decide)
    have k11 : vals 11 = .int .i64 bi := hφ 11 (by decide)
    have k12 : vals 12 = .pointer (some ⟨sb, off + bi * 2, none⟩) := hφ 12 (by decide)
    have k13 : vals 13 = .agg #[.int .i64 (lo bi), .int .i64 (hi bi)] := hφ 13 (by decide)
    have k14 : vals 14 = .tuple #[.agg #[.int .i64 q.l0, .int .i64 q.h0], .agg #[.int .i64 q.l1, .int .i64 q.h1], .bool q.ok] := hφ 14 (by decide)
    have k15 : vals 15 = .tuple #[.agg #[.int .i64 q.l0, .int .i64 q.h0], .agg #[.int .i64 q.l1, .int .i64 q.h1], .bool q.ok] := hφ 15 (by decide)
    have k16 : vals 16 = .agg #[.int .i64 q.l0, .int .i64 q.h0] := hφ 16 (by decide)
    have k17 : vals 17 = .agg #[.int .i64 q.l1, .int .i64 q.h1] := hφ 17 (by decide)
    have k18 : vals 18 = .bool q.ok := hφ 18 (by decide)
    have k23 : vals 23 = .bool q.ok := hφ 23 (by decide)
    simp only [frOf, Act.put, List.setIfInBounds_toArray, List.set_cons_succ, List.set_cons_zero, k0, k1, k2, k3, k4, k5, k6, k7, k8, k9, k10, k11, k12, k13, k14, k15, k16, k17, k18, k23]
    clear k0 k1 k2 k3 k4 k5 k6 k7 k8 k9 k10 k11 k12 k13 k14 k15 k16 k17 k18 k23 hφ
    have H := hS.1
    clear hall
    go_wp2_with fail
    go_ret
    exact ⟨ret_bool (by rw [← hq.out]; simp [failB]), H.below⟩
set_option maxRecDepth 10000 in
set_option maxHeartbeats 8000000 in
theorem absFailsS_n (pa : Option Addr) (pb po m pc : Nat) (P : Nat → Proc) (S : Nat → Spot) (d : Int) (ai bi : Nat) (r l h t : Int) (sb off cap : Nat) (lo hi : Nat → Int) (c u : Int) (o : Int) (w : World) (hm : m ≤ 1048576) (hN : ∀ i, i < m → (P i).n ≤ 1048576) (hP : ProcsAt pa pb po m P S w) (hC : BndsAt (some ⟨sb, off, none⟩) sb off 4 lo hi w) (hai : ai < 4) (hbi : bi < 4) (g : Hid (canStep P m o d ai bi r l h t true 4 lo hi c u = true)) (n4 : o ≠ 4) (n6 : o ≠ 6) (n7 : o ≠ 7) (n10 : o ≠ 10) (n11 : o ≠ 11) :
    Calls Try.prog 34 #[.agg #[.slice pa m pc], .agg #[.int .i64 o, .int .i64 d, .int .i64 (ai : Int), .int .i64 (bi : Int), .int .i64 r, .int .i64 l, .int .i64 h, .int .i64 t], .agg #[.bool true, .slice (some ⟨sb, off, none⟩) 4 cap, .int .i64 c, .int .i64 u]] w fun e w' => e = .returned (.bool (failB o r ai bi t.toNat lo hi P)) ∧ Below w.heap.size w w' := by
  have H : HeldL w [(w.heap.size + 1 + 1, [Value.bool true, .slice (some ⟨sb, off, none⟩) 4 cap, .int .i64 c, .int .i64 u]), (w.heap.size + 1, [Value.int .i64 o, .int .i64 d, .int .i64 (ai : Int), .int .i64 (bi : Int), .int .i64 r, .int .i64 l, .int .i64 h, .int .i64 t]), (w.heap.size, [Value.slice pa m pc])] (((w.alloc (.cells #[.slice pa m pc] 35)).alloc (.cells #[.int .i64 o, .int .i64 d, .int .i64 (ai : Int), .int .i64 (bi : Int), .int .i64 r, .int .i64 l, .int .i64 h, .int .i64 t] 72)).alloc (.cells #[.bool true, .slice (some ⟨sb, off, none⟩) 4 cap, .int .i64 c, .int .i64 u] 77)) := by
    have e1 : w.heap.size + 1 = (w.alloc (.cells #[.slice pa m pc] 35)).heap.size := by simp
    have e2 : w.heap.size + 1 + 1 = ((w.alloc (.cells #[.slice pa m pc] 35)).alloc (.cells #[.int .i64 o, .int .i64 d, .int .i64 (ai : Int), .int .i64 (bi : Int), .int .i64 r, .int .i64 l, .int .i64 h, .int .i64 t] 72)).heap.size := by simp
    rw [e2, e1]
    exact HeldL.newL (vs := [Value.bool true, .slice (some ⟨sb, off, none⟩) 4 cap, .int .i64 c, .int .i64 u]) (HeldL.newL (vs := [Value.int .i64 o, .int .i64 d, .int .i64 (ai : Int), .int .i64 (bi : Int), .int .i64 r, .int .i64 l, .int .i64 h, .int .i64 t]) (HeldL.newL (vs := [Value.slice pa m pc]) (HeldL.nil w)))
  obtain ⟨Lb, hLb⟩ : ∃ L, L = [(w.heap.size + 1 + 1, [Value.bool true, .slice (some ⟨sb, off, none⟩) 4 cap, .int .i64 c, .int .i64 u]), (w.heap.size + 1, [Value.int .i64 o, .int .i64 d, .int .i64 (ai : Int), .int .i64 (bi : Int), .int .i64 r, .int .i64 l, .int .i64 h, .int .i64 t]), (w.heap.size, [Value.slice pa m pc])] := ⟨_, rfl⟩
  have mP : (w.heap.size, [Value.slice pa m pc]) ∈ Lb := by rw [hLb]; simp
  have mI : (w.heap.size + 1, [Value.int .i64 o, .int .i64 d, .int .i64 (ai : Int), .int .i64 (bi : Int), .int .i64 r, .int .i64 l, .int .i64 h, .int .i64 t]) ∈ Lb := by rw [hLb]; simp
  have mS : (w.heap.size + 1 + 1, [Value.bool true, .slice (some ⟨sb, off, none⟩) 4 cap, .int .i64 c, .int .i64 u]) ∈ Lb := by rw [hLb]; simp
  rw [← hLb] at H
  clear hLb
  have I := hC.next H.below
  have Q := hP.next H.below
  clear hC hP
  go_enter Try.func34, Try.ntmps34
  go_wp2_with fail
  refine (fitS _ _ _ _ _ _ _ _ _ _ _ _ _ _ _ _ _ _ _ _ _ _ _ _ _ _ hm hN (by omega) Q I).mono ?_
  rintro e w1 ⟨rfl, hb⟩
  rw [g.out]
  replace H := H.next hb
  replace I := I.next hb
  replace Q := Q.next hb
  clear hb
  clear hm hN
  have c0 := H.cell mI (i := 0) rfl
  dsimp only at c0
  have t1ai : ((ai : Int)).toNat = ai := by omega
  have t2ai : (0 : Int) ≤ (ai : Int) := by omega
  have t3ai : (ai : Int) < 4 := by omega
  have t1bi : ((bi : Int)).toNat = bi := by omega
  have t2bi : (0 : Int) ≤ (bi : Int) := by omega
  have t3bi : (bi : Int) < 4 := by omega
  have b4 : (o == 4) = false := by simpa using n4
  have b6 : (o == 6) = false := by simpa using n6
  have b7 : (o == 7) = false := by simpa using n7
  have b10 : (o == 10) = false := by simpa using n10
  have b11 : (o == 11) = false := by simpa using n11
  go_wp2_with fail
  go_ret
  exact ⟨ret_bool (by simp [failB, n4, n6, n7, n10, n11]), H.below⟩
set_option maxRecDepth 10000 in
set_option maxHeartbeats 4000000 in
theorem absFailsS (pa : Option Addr) (pb po m pc : Nat) (P : Nat → Proc) (S : Nat → Spot) (o d a b r l h t : Int) (on : Bool) (sa : Option Addr) (sb off n cap : Nat) (lo hi : Nat → Int) (c u : Int) (w : World) (hm : m ≤ 1048576) (hN : ∀ i, i < m → (P i).n ≤ 1048576) (hn : n ≤ 1048576) (hP : ProcsAt pa pb po m P S w) (hC : BndsAt sa sb off n lo hi w) :
    Calls Try.prog 34 #[.agg #[.slice pa m pc], .agg #[.int .i64 o, .int .i64 d, .int .i64 a, .int .i64 b, .int .i64 r, .int .i64 l, .int .i64 h, .int .i64 t], .agg #[.bool on, .slice sa n cap, .int .i64 c, .int .i64 u]] w fun e w' => e = .returned (.bool (absFails P m o d a b r l h t on n lo hi c u)) ∧ Below w.heap.size w w' := by
  cases g : canStep P m o d a b r l h t on n lo hi c u
  · have H : HeldL w [(w.heap.size + 1 + 1, [Value.bool on, .slice sa n cap, .int .i64 c, .int .i64 u]), (w.heap.size + 1, [Value.int .i64 o, .int .i64 d, .int .i64 a, .int .i64 b, .int .i64 r, .int .i64 l, .int .i64 h, .int .i64 t]), (w.heap.size, [Value.slice pa m pc])] (((w.alloc (.cells #[.slice pa m pc] 35)).alloc (.cells #[.int .i64 o, .int .i64 d, .int .i64 a, .int .i64 b, .int .i64 r, .int .i64 l, .int .i64 h, .int .i64 t] 72)).alloc (.cells #[.bool on, .slice sa n cap, .int .i64 c, .int .i64 u] 77)) := by
      have e1 : w.heap.size + 1 = (w.alloc (.cells #[.slice pa m pc] 35)).heap.size := by simp
      have e2 : w.heap.size + 1 + 1 = ((w.alloc (.cells #[.slice pa m pc] 35)).alloc (.cells #[.int .i64 o, .int .i64 d, .int .i64 a, .int .i64 b, .int .i64 r, .int .i64 l, .int .i64 h, .int .i64 t] 72)).heap.size := by simp
      rw [e2, e1]
      exact HeldL.newL (vs := [Value.bool on, .slice sa n cap, .int .i64 c, .int .i64 u]) (HeldL.newL (vs := [Value.int .i64 o, .int .i64 d, .int .i64 a, .int .i64 b, .int .i64 r, .int .i64 l, .int .i64 h, .int .i64 t]) (HeldL.newL (vs := [Value.slice pa m pc]) (HeldL.nil w)))
    obtain ⟨Lb, hLb⟩ : ∃ L, L = [(w.heap.size + 1 + 1, [Value.bool on, .slice sa n cap, .int .i64 c, .int .i64 u]), (w.heap.size + 1, [Value.int .i64 o, .int .i64 d, .int .i64 a, .int .i64 b, .int .i64 r, .int .i64 l, .int .i64 h, .int .i64 t]), (w.heap.size, [Value.slice pa m pc])] := ⟨_, rfl⟩
    have mP : (w.heap.size, [Value.slice pa m pc]) ∈ Lb := by rw [hLb]; simp
    have mI : (w.heap.size + 1, [Value.int .i64 o, .int .i64 d, .int .i64 a, .int .i64 b, .int .i64 r, .int .i64 l, .int .i64 h, .int .i64 t]) ∈ Lb := by rw [hLb]; simp
    have mS : (w.heap.size + 1 + 1, [Value.bool on, .slice sa n cap, .int .i64 c, .int .i64 u]) ∈ Lb := by rw [hLb]; simp
    rw [← hLb] at H
    clear hLb
    have I := hC.next H.below
    have Q := hP.next H.below
    clear hC hP
    go_enter Try.func34, Try.ntmps34
    go_wp2_with fail
    refine (fitS _ _ _ _ _ _ _ _ _ _ _ _ _ _ _ _ _ _ _ _ _ _ _ _ _ _ hm hN hn Q I).mono ?_
    rintro e w1 ⟨rfl, hb⟩
    rw [g]
    replace H := H.next hb
    go_wp2_with fail
    go_ret
    exact ⟨ret_bool (by simp [absFails, g]), H.below⟩
  · have hF : absFails P m o d a b r l h t on n lo hi c u = failB o r a.toNat b.toNat t.toNat lo hi P := by simp [absFails, g]
    rw [hF]
    obtain ⟨rfl, rfl, ⟨ai, hai, rfl⟩, ⟨bi, hbi, rfl⟩, _, ht, _, _⟩ := canStep_at g
    have es := hC.at_ (by omega)
    subst es
    simp only [Int.toNat_natCast]
    clear hF
    by_cases h4 : o = 4
    · subst h4; exact absFailsS_4 _ _ _ _ _ _ _ _ _ _ _ _ _ _ _ _ _ _ _ _ _ _ hm hN hP hC hai hbi g
    by_cases h6 : o = 6
    · subst h6; exact absFailsS_6 _ _ _ _ _ _ _ _ _ _ _ _ _ _ _ _ _ _ _ _ _ _ hm hN hP hC hai hbi g
    by_cases h7 : o = 7
    · subst h7; exact absFailsS_7 _ _ _ _ _ _ _ _ _ _ _ _ _ _ _ _ _ _ _ _ _ _ hm hN hP hC hai hbi g
    by_cases h10 : o = 10
    · subst h10
      obtain ⟨ti, hti, rfl⟩ := ht rfl
      have ep := hP.at_ (by omega)
      subst ep
      simp only [Int.toNat_natCast]
      exact absFailsS_10 _ _ _ _ _ _ _ _ _ _ _ _ _ _ _ _ _ _ _ _ _ hm hN hP hC hai hbi hti g
    by_cases h11 : o = 11
    · subst h11; exact absFailsS_11 _ _ _ _ _ _ _ _ _ _ _ _ _ _ _ _ _ _ _ _ _ _ hm hN hP hC hai hbi g
    exact absFailsS_n _ _ _ _ _ _ _ _ _ _ _ _ _ _ _ _ _ _ _ _ _ _ _ hm hN hP hC hai hbi g h4 h6 h7 h10 h11
end Go.Proofs.Ytdpkbbbfnmneiaa
namespace Go.Proofs.Ytdpkbbbfnmneiaa
open Go.ChangeShapes Go.WideShapes Go.ChangeAt Go.RowKit
set_option linter.unusedVariables false

theorem tas {P : Program} {T : TypeId} {fs : Array Field} (hu : P.underlying T = some (.struct fs)) (v : Value) (xT : TypeId) (w : World) : (Instr.typeAssert (.iface T v) xT T true).run P w = .ok (.tuple #[v, .bool true]) w := by
  simp [Instr.typeAssert, run_underlying hu]
theorem tao {P : Program} {T S : TypeId} {fs : Array Field} {z : Value} (hu : P.underlying S = some (.struct fs)) (hz : (P.info? S).map (·.zero) = some (some z)) (hne : (T == S) = false) (v : Value) (xT : TypeId) (w : World) : (Instr.typeAssert (.iface T v) xT S true).run P w = .ok (.tuple #[z, .bool false]) w := by
  obtain ⟨j, hj, hz'⟩ := Option.map_eq_some_iff.1 hz
  simp at hne
  simp [Instr.typeAssert, run_underlying hu, typeInfo, zeroValue, hj, hz', hne]
theorem itvPlacesI (w : World) : Calls Try.prog 107 #[] w fun e w' => e = .returned (.agg #[.int .i64 0, .int .i64 3]) ∧ Below w.heap.size w w' := by
  go_enter Try.func107, Try.ntmps107
  go_wp2
  refine bodyPost_ret (v := .agg #[.int .i64 0, .int .i64 3]) (by simp [results, Try.results107, go_sem]) rfl ⟨rfl, ?_⟩
  repeat (first | exact Below.refl _ _ | refine Below.drew ?_ | refine Below.alloc ?_ (by simp; try omega) _ | refine Below.setCell ?_ (by simp; try omega) _)
set_option maxRecDepth 10000 in
set_option maxHeartbeats 8000000 in
theorem canI (pa : Option Addr) (pb po m pc : Nat) (P : Nat → Proc) (S : Nat → Spot) (o d a b r l h t : Int) (on : Bool) (sa : Option Addr) (sb off n cap : Nat) (lo hi : Nat → Int) (c u : Int) (w : World) (hm : m ≤ 1048576) (hN : ∀ i, i < m → (P i).n ≤ 1048576) (hn : n ≤ 1048576) (hP : ProcsAt pa pb po m P S w) (hC : BndsAt sa sb off n lo hi w) :
    Calls Try.prog 76 #[.agg #[.slice pa m pc], .agg #[.int .i64 o, .int .i64 d, .int .i64 a, .int .i64 b, .int .i64 r, .int .i64 l, .int .i64 h, .int .i64 t], .agg #[.bool on, .slice sa n cap, .int .i64 c, .int .i64 u]] w fun e w' => e = .returned (.bool (canStep P m o d a b r l h t on n lo hi c u)) ∧ Below w.heap.size w w' := by
  have H : HeldL w [(w.heap.size + 1 + 1, [Value.bool on, .slice sa n cap, .int .i64 c, .int .i64 u]), (w.heap.size + 1, [Value.int .i64 o, .int .i64 d, .int .i64 a, .int .i64 b, .int .i64 r, .int .i64 l, .int .i64 h, .int .i64 t]), (w.heap.size, [Value.slice pa m pc])] (((w.alloc (.cells #[.slice pa m pc] 35)).alloc (.cells #[.int .i64 o, .int .i64 d, .int .i64 a, .int .i64 b, .int .i64 r, .int .i64 l, .int .i64 h, .int .i64 t] 72)).alloc (.cells #[.bool on, .slice sa n cap, .int .i64 c, .int .i64 u] 77)) := by
    have e1 : w.heap.size + 1 = (w.alloc (.cells #[.slice pa m pc] 35)).heap.size := by simp
    have e2 : w.heap.size + 1 + 1 = ((w.alloc (.cells #[.slice pa m pc] 35)).alloc (.cells #[.int .i64 o, .int .i64 d, .int .i64 a, .int .i64 b, .int .i64 r, .int .i64 l, .int .i64 h, .int .i64 t] 72)).heap.size := by simp
    rw [e2, e1]
    exact HeldL.newL (vs := [Value.bool on, .slice sa n cap, .int .i64 c, .int .i64 u]) (HeldL.newL (vs := [Value.int .i64 o, .int .i64 d, .int .i64 a, .int .i64 b, .int .i64 r, .int .i64 l, .int .i64 h, .int .i64 t]) (HeldL.newL (vs := [Value.slice pa m pc]) (HeldL.nil w)))
  obtain ⟨Lb, hLb⟩ : ∃ L, L = [(w.heap.size + 1 + 1, [Value.bool on, .slice sa n cap, .int .i64 c, .int .i64 u]), (w.heap.size + 1, [Value.int .i64 o, .int .i64 d, .int .i64 a, .int .i64 b, .int .i64 r, .int .i64 l, .int .i64 h, .int .i64 t]), (w.heap.size, [Value.slice pa m pc])] := ⟨_, rfl⟩
  have mP : (w.heap.size, [Value.slice pa m pc]) ∈ Lb := by rw [hLb]; simp
  have mI : (w.heap.size + 1, [Value.int .i64 o, .int .i64 d, .int .i64 a, .int .i64 b, .int .i64 r, .int .i64 l, .int .i64 h, .int .i64 t]) ∈ Lb := by rw [hLb]; simp
  have mS : (w.heap.size + 1 + 1, [Value.bool on, .slice sa n cap, .int .i64 c, .int .i64 u]) ∈ Lb := by rw [hLb]; simp
  rw [← hLb] at H
  clear hLb
  have I := hC.next H.below
  have Q := hP.next H.below
  clear hC hP
  go_enter Try.func76, Try.ntmps76
  go_wp2_with fail
  refine (prgOkI _ _ _ _ _ _ _ _ hm hN Q).mono ?_
  rintro e w1 ⟨rfl, hb⟩
  replace H := H.next hb
  replace I := I.next hb
  replace Q := Q.next hb
  clear hb
  cases g1 : prgOk P m
  · go_wp2_with fail
    go_ret
    exact ⟨ret_bool (by simp [canStep, g1]), H.below⟩
  have x0 := H.cell mI (i := 0) rfl
  have x1 := H.cell mI (i := 1) rfl
  have x2 := H.cell mI (i := 2) rfl
  have x3 := H.cell mI (i := 3) rfl
  have x4 := H.cell mI (i := 4) rfl
  have x5 := H.cell mI (i := 5) rfl
  have x6 := H.cell mI (i := 6) rfl
  have x7 := H.cell mI (i := 7) rfl
  dsimp only at x0 x1 x2 x3 x4 x5 x6 x7
  have y0 := H.cell mP (i := 0) rfl
  dsimp only at y0
  go_wp2_with fail
  refine (insOkI _ _ _ _ _ _ _ _ _ _ _).mono ?_
  rintro e w2 ⟨rfl, hb⟩
  replace H := H.next hb
  replace I := I.next hb
  replace Q := Q.next hb
  clear hb
  clear x0 x1 x2 x3 x4 x5 x6 x7 y0
  cases g2 : insOk o d a b r l h t m 10
  · go_wp2_with fail
    go_ret
    exact ⟨ret_bool (by simp [canStep, g1, g2]), H.below⟩
  have c0 := H.cell mS (i := 0) rfl
  have c1 := H.cell mS (i := 1) rfl
  have c2 := H.cell mS (i := 2) rfl
  have c3 := H.cell mS (i := 3) rfl
  dsimp only at c0 c1 c2 c3
  go_wp2_with fail
  refine (comesI _ _ _ _ _ _ _ _ _ _ _ hn I).mono ?_
  rintro e w3 ⟨rfl, hb⟩
  replace H := H.next hb
  replace I := I.next hb
  replace Q := Q.next hb
  clear hb
  clear c0 c1 c2 c3
  go_wp2_with fail
  go_ret
  exact ⟨ret_bool (by simp [canStep, g1, g2, Bool.and_comm]), H.below⟩
set_option maxRecDepth 10000 in
set_option maxHeartbeats 8000000 in
theorem mayI_reckon (pa : Option Addr) (m pc : Nat) (l h : Nat → Int) (ai bi : Nat) (o d : Int) (w : World) (hai : ai < 4) (hbi : bi < 4) :
    Calls Try.prog 78 #[.agg #[.bool true, .int .i64 (l 0), .int .i64 (h 0), .int .i64 (l 1), .int .i64 (h 1), .int .i64 (l 2), .int .i64 (h 2), .int .i64 (l 3), .int .i64 (h 3), .int .i64 (l 4), .int .i64 (h 4)], .agg #[.slice pa m pc], .iface 160 (.agg #[.int .i64 o, .int .i64 d, .int .i64 (ai : Int), .int .i64 (bi : Int)])] w fun e w' => e = .returned (.bool (decide (o = 4) && itvHas (l bi) (h bi) 0)) ∧ Below w.heap.size w w' := by
  by_cases h4 : o = 4
  · subst h4
    have H : HeldL w [(w.heap.size + 1 + 1, [Value.int .i64 4, .int .i64 d, .int .i64 (ai : Int), .int .i64 (bi : Int)]), (w.heap.size + 1, [Value.slice pa m pc]), (w.heap.size, [Value.bool true, .int .i64 (l 0), .int .i64 (h 0), .int .i64 (l 1), .int .i64 (h 1), .int .i64 (l 2), .int .i64 (h 2), .int .i64 (l 3), .int .i64 (h 3), .int .i64 (l 4), .int .i64 (h 4)])] (((w.alloc (.cells #[.bool true, .int .i64 (l 0), .int .i64 (h 0), .int .i64 (l 1), .int .i64 (h 1), .int .i64 (l 2), .int .i64 (h 2), .int .i64 (l 3), .int .i64 (h 3), .int .i64 (l 4), .int .i64 (h 4)] 129)).alloc (.cells #[.slice pa m pc] 35)).alloc (.cells #[.int .i64 4, .int .i64 d, .int .i64 (ai : Int), .int .i64 (bi : Int)] 160)) := by
      have e1 : w.heap.size + 1 = (w.alloc (.cells #[.bool true, .int .i64 (l 0), .int .i64 (h 0), .int .i64 (l 1), .int .i64 (h 1), .int .i64 (l 2), .int .i64 (h 2), .int .i64 (l 3), .int .i64 (h 3), .int .i64 (l 4), .int .i64 (h 4)] 129)).heap.size := by simp
      have e2 : w.heap.size + 1 + 1 = ((w.alloc (.cells #[.bool true, .int .i64 (l 0), .int .i64 (h 0), .int .i64 (l 1), .int .i64 (h 1), .int .i64 (l 2), .int .i64 (h 2), .int .i64 (l 3), .int .i64 (h 3), .int .i64 (l 4), .int .i64 (h 4)] 129)).alloc (.cells #[.slice pa m pc] 35)).heap.size := by simp
      rw [e2, e1]
      exact HeldL.newL (vs := [Value.int .i64 4, .int .i64 d, .int .i64 (ai : Int), .int .i64 (bi : Int)]) (HeldL.newL (vs := [Value.slice pa m pc]) (HeldL.newL (vs := [Value.bool true, .int .i64 (l 0), .int .i64 (h 0), .int .i64 (l 1), .int .i64 (h 1), .int .i64 (l 2), .int .i64 (h 2), .int .i64 (l 3), .int .i64 (h 3), .int .i64 (l 4), .int .i64 (h 4)]) (HeldL.nil w)))
    obtain ⟨Lb, hLb⟩ : ∃ L, L = [(w.heap.size + 1 + 1, [Value.int .i64 4, .int .i64 d, .int .i64 (ai : Int), .int .i64 (bi : Int)]), (w.heap.size + 1, [Value.slice pa m pc]), (w.heap.size, [Value.bool true, .int .i64 (l 0), .int .i64 (h 0), .int .i64 (l 1), .int .i64 (h 1), .int .i64 (l 2), .int .i64 (h 2), .int .i64 (l 3), .int .i64 (h 3), .int .i64 (l 4), .int .i64 (h 4)])] := ⟨_, rfl⟩
    have mA : (w.heap.size, [Value.bool true, .int .i64 (l 0), .int .i64 (h 0), .int .i64 (l 1), .int .i64 (h 1), .int .i64 (l 2), .int .i64 (h 2), .int .i64 (l 3), .int .i64 (h 3), .int .i64 (l 4), .int .i64 (h 4)]) ∈ Lb := by rw [hLb]; simp
    have mP : (w.heap.size + 1, [Value.slice pa m pc]) ∈ Lb := by rw [hLb]; simp
    have mV : (w.heap.size + 1 + 1, [Value.int .i64 4, .int .i64 d, .int .i64 (ai : Int), .int .i64 (bi : Int)]) ∈ Lb := by rw [hLb]; simp
    rw [← hLb] at H
    clear hLb
    have t1ai : ((ai : Int)).toNat = ai := by omega
    have t2ai : (0 : Int) ≤ (ai : Int) := by omega
    have t3ai : (ai : Int) < 5 := by omega
    have t1bi : ((bi : Int)).toNat = bi := by omega
    have t2bi : (0 : Int) ≤ (bi : Int) := by omega
    have t3bi : (bi : Int) < 5 := by omega
    have d0 := H.cell mA (i := 1 + bi * 2) (cellAt_lo true l h (by omega))
    have d1 := H.cell mA (i := 1 + bi * 2 + 1) (cellAt_hi true l h (by omega))
    dsimp only at d0 d1
    have ta0 := fun w => tas Try.underlying160 (.agg #[.int .i64 4, .int .i64 d, .int .i64 (ai : Int), .int .i64 (bi : Int)]) 133 w
    go_enter Try.func78, Try.ntmps78
    go_wp2_with fail
    refine (itvHasI _ _ _ _).mono ?_
    rintro e w2 ⟨rfl, hb⟩
    replace H := H.next hb
    go_wp2_with fail
    go_ret
    exact ⟨ret_bool (by simp), H.below⟩
  have H : HeldL w [(w.heap.size + 1 + 1, [Value.int .i64 o, .int .i64 d, .int .i64 (ai : Int), .int .i64 (bi : Int)]), (w.heap.size + 1, [Value.slice pa m pc]), (w.heap.size, [Value.bool true, .int .i64 (l 0), .int .i64 (h 0), .int .i64 (l 1), .int .i64 (h 1), .int .i64 (l 2), .int .i64 (h 2), .int .i64 (l 3), .int .i64 (h 3), .int .i64 (l 4), .int .i64 (h 4)])] (((w.alloc (.cells #[.bool true, .int .i64 (l 0), .int .i64 (h 0), .int .i64 (l 1), .int .i64 (h 1), .int .i64 (l 2), .int .i64 (h 2), .int .i64 (l 3), .int .i64 (h 3), .int .i64 (l 4), .int .i64 (h 4)] 129)).alloc (.cells #[.slice pa m pc] 35)).alloc (.cells #[.int .i64 o, .int .i64 d, .int .i64 (ai : Int), .int .i64 (bi : Int)] 160)) := by
    have e1 : w.heap.size + 1 = (w.alloc (.cells #[.bool true, .int .i64 (l 0), .int .i64 (h 0), .int .i64 (l 1), .int .i64 (h 1), .int .i64 (l 2), .int .i64 (h 2), .int .i64 (l 3), .int .i64 (h 3), .int .i64 (l 4), .int .i64 (h 4)] 129)).heap.size := by simp
    have e2 : w.heap.size + 1 + 1 = ((w.alloc (.cells #[.bool true, .int .i64 (l 0), .int .i64 (h 0), .int .i64 (l 1), .int .i64 (h 1), .int .i64 (l 2), .int .i64 (h 2), .int .i64 (l 3), .int .i64 (h 3), .int .i64 (l 4), .int .i64 (h 4)] 129)).alloc (.cells #[.slice pa m pc] 35)).heap.size := by simp
    rw [e2, e1]
    exact HeldL.newL (vs := [Value.int .i64 o, .int .i64 d, .int .i64 (ai : Int), .int .i64 (bi : Int)]) (HeldL.newL (vs := [Value.slice pa m pc]) (HeldL.newL (vs := [Value.bool true, .int .i64 (l 0), .int .i64 (h 0), .int .i64 (l 1), .int .i64 (h 1), .int .i64 (l 2), .int .i64 (h 2), .int .i64 (l 3), .int .i64 (h 3), .int .i64 (l 4), .int .i64 (h 4)]) (HeldL.nil w)))
  obtain ⟨Lb, hLb⟩ : ∃ L, L = [(w.heap.size + 1 + 1, [Value.int .i64 o, .int .i64 d, .int .i64 (ai : Int), .int .i64 (bi : Int)]), (w.heap.size + 1, [Value.slice pa m pc]), (w.heap.size, [Value.bool true, .int .i64 (l 0), .int .i64 (h 0), .int .i64 (l 1), .int .i64 (h 1), .int .i64 (l 2), .int .i64 (h 2), .int .i64 (l 3), .int .i64 (h 3), .int .i64 (l 4), .int .i64 (h 4)])] := ⟨_, rfl⟩
  have mA : (w.heap.size, [Value.bool true, .int .i64 (l 0), .int .i64 (h 0), .int .i64 (l 1), .int .i64 (h 1), .int .i64 (l 2), .int .i64 (h 2), .int .i64 (l 3), .int .i64 (h 3), .int .i64 (l 4), .int .i64 (h 4)]) ∈ Lb := by rw [hLb]; simp
  have mP : (w.heap.size + 1, [Value.slice pa m pc]) ∈ Lb := by rw [hLb]; simp
  have mV : (w.heap.size + 1 + 1, [Value.int .i64 o, .int .i64 d, .int .i64 (ai : Int), .int .i64 (bi : Int)]) ∈ Lb := by rw [hLb]; simp
  rw [← hLb] at H
  clear hLb
  have h4b : (o == 4) = false := by simpa using h4
  have ta0 := fun w => tas Try.underlying160 (.agg #[.int .i64 o, .int .i64 d, .int .i64 (ai : Int), .int .i64 (bi : Int)]) 133 w
  go_enter Try.func78, Try.ntmps78
  go_wp2_with fail
  go_ret
  exact ⟨ret_bool (by simp [h4]), H.below⟩
set_option maxRecDepth 10000 in
set_option maxHeartbeats 8000000 in
theorem mayI_load (pa : Option Addr) (m pc : Nat) (l h : Nat → Int) (ai : Nat) (d : Int) (w : World) (hai : ai < 4) :
    Calls Try.prog 78 #[.agg #[.bool true, .int .i64 (l 0), .int .i64 (h 0), .int .i64 (l 1), .int .i64 (h 1), .int .i64 (l 2), .int .i64 (h 2), .int .i64 (l 3), .int .i64 (h 3), .int .i64 (l 4), .int .i64 (h 4)], .agg #[.slice pa m pc], .iface 162 (.agg #[.int .i64 d, .int .i64 (ai : Int)])] w fun e w' => e = .returned (.bool (!itvIn (l ai) (h ai) 0 3)) ∧ Below w.heap.size w w' := by
  have H : HeldL w [(w.heap.size + 1 + 1, [Value.int .i64 d, .int .i64 (ai : Int)]), (w.heap.size + 1, [Value.slice pa m pc]), (w.heap.size, [Value.bool true, .int .i64 (l 0), .int .i64 (h 0), .int .i64 (l 1), .int .i64 (h 1), .int .i64 (l 2), .int .i64 (h 2), .int .i64 (l 3), .int .i64 (h 3), .int .i64 (l 4), .int .i64 (h 4)])] (((w.alloc (.cells #[.bool true, .int .i64 (l 0), .int .i64 (h 0), .int .i64 (l 1), .int .i64 (h 1), .int .i64 (l 2), .int .i64 (h 2), .int .i64 (l 3), .int .i64 (h 3), .int .i64 (l 4), .int .i64 (h 4)] 129)).alloc (.cells #[.slice pa m pc] 35)).alloc (.cells #[.int .i64 d, .int .i64 (ai : Int)] 162)) := by
    have e1 : w.heap.size + 1 = (w.alloc (.cells #[.bool true, .int .i64 (l 0), .int .i64 (h 0), .int .i64 (l 1), .int .i64 (h 1), .int .i64 (l 2), .int .i64 (h 2), .int .i64 (l 3), .int .i64 (h 3), .int .i64 (l 4), .int .i64 (h 4)] 129)).heap.size := by simp
    have e2 : w.heap.size + 1 + 1 = ((w.alloc (.cells #[.bool true, .int .i64 (l 0), .int .i64 (h 0), .int .i64 (l 1), .int .i64 (h 1), .int .i64 (l 2), .int .i64 (h 2), .int .i64 (l 3), .int .i64 (h 3), .int .i64 (l 4), .int .i64 (h 4)] 129)).alloc (.cells #[.slice pa m pc] 35)).heap.size := by simp
    rw [e2, e1]
    exact HeldL.newL (vs := [Value.int .i64 d, .int .i64 (ai : Int)]) (HeldL.newL (vs := [Value.slice pa m pc]) (HeldL.newL (vs := [Value.bool true, .int .i64 (l 0), .int .i64 (h 0), .int .i64 (l 1), .int .i64 (h 1), .int .i64 (l 2), .int .i64 (h 2), .int .i64 (l 3), .int .i64 (h 3), .int .i64 (l 4), .int .i64 (h 4)]) (HeldL.nil w)))
  obtain ⟨Lb, hLb⟩ : ∃ L, L = [(w.heap.size + 1 + 1, [Value.int .i64 d, .int .i64 (ai : Int)]), (w.heap.size + 1, [Value.slice pa m pc]), (w.heap.size, [Value.bool true, .int .i64 (l 0), .int .i64 (h 0), .int .i64 (l 1), .int .i64 (h 1), .int .i64 (l 2), .int .i64 (h 2), .int .i64 (l 3), .int .i64 (h 3), .int .i64 (l 4), .int .i64 (h 4)])] := ⟨_, rfl⟩
  have mA : (w.heap.size, [Value.bool true, .int .i64 (l 0), .int .i64 (h 0), .int .i64 (l 1), .int .i64 (h 1), .int .i64 (l 2), .int .i64 (h 2), .int .i64 (l 3), .int .i64 (h 3), .int .i64 (l 4), .int .i64 (h 4)]) ∈ Lb := by rw [hLb]; simp
  have mP : (w.heap.size + 1, [Value.slice pa m pc]) ∈ Lb := by rw [hLb]; simp
  have mV : (w.heap.size + 1 + 1, [Value.int .i64 d, .int .i64 (ai : Int)]) ∈ Lb := by rw [hLb]; simp
  rw [← hLb] at H
  clear hLb
  have t1ai : ((ai : Int)).toNat = ai := by omega
  have t2ai : (0 : Int) ≤ (ai : Int) := by omega
  have t3ai : (ai : Int) < 5 := by omega
  obtain ⟨q, hq'⟩ : ∃ q, itvIn (l ai) (h ai) 0 3 = q := ⟨_, rfl⟩
  have hq : Hid (itvIn (l ai) (h ai) 0 3 = q) := hq'
  clear hq'
  obtain ⟨V, hV⟩ : ∃ V, V = (((w.alloc (.cells #[.bool true, .int .i64 (l 0), .int .i64 (h 0), .int .i64 (l 1), .int .i64 (h 1), .int .i64 (l 2), .int .i64 (h 2), .int .i64 (l 3), .int .i64 (h 3), .int .i64 (l 4), .int .i64 (h 4)] 129)).alloc (.cells #[.slice pa m pc] 35)).alloc (.cells #[.int .i64 d, .int .i64 (ai : Int)] 162)) := ⟨_, rfl⟩
  rw [← hV] at H
  have hS0 : HX w V Lb V.drew := ⟨H.drew, (Below.refl _ V).drew⟩
  clear H
  have ta0 := fun w => tao (T := 162) (S := 160) (z := .agg #[.int .i64 0, .int .i64 0, .int .i64 0, .int .i64 0]) Try.underlying160 (by kernel_rfl) (by decide) (.agg #[.int .i64 d, .int .i64 (ai : Int)]) 133 w
  have ta1 := fun w => tas Try.underlying162 (.agg #[.int .i64 d, .int .i64 (ai : Int)]) 133 w
  go_enter Try.func78, Try.ntmps78
  go_wp2_with fail
  rw [← hV]
  clear hV
  refine region_inv3 [(0, 33), (1, 34), (2, 35), (3, 36), (4, 37), (5, 38), (6, 39), (7, 40), (8, 6)]
    (fun j v _ => match j with
      | 0 => Is (.pointer (some ⟨w.heap.size + 1 + 1, 1, none⟩)) v
      | 1 => Is (.int .i64 ai) v
      | 2 => Is (.pointer (some ⟨w.heap.size, 1, none⟩)) v
      | 3 => Is (.pointer (some ⟨w.heap.size, 1 + ai * 2, none⟩)) v
      | 4 => Is (.agg #[.int .i64 (l ai), .int .i64 (h ai)]) v
      | 5 => Is (.agg #[.int .i64 0, .int .i64 3]) v
      | 6 => Is (.bool q) v
      | 7 => Is (.bool !q) v
      | 8 => Is (.bool !q) v
      | _ => True)
    (fun _ W => HX w V Lb W) TT
    (by kernel_rfl) (by kernel_rfl) (by kernel_rfl) (by kernel_rfl) (by kernel_rfl) rfl hS0 (fun i j v W W' _ h _ => h) ?_ ?_
  · intro i L vals W hi' hφ hS hL hd
    have hi2 : i < 9 := hi'
    clear hi'
    rcases (show i = 0 ∨ i = 1 ∨ i = 2 ∨ i = 3 ∨ i = 4 ∨ i = 5 ∨ i = 6 ∨ i = 7 ∨ i = 8 by omega) with rfl | rfl | rfl | rfl | rfl | rfl | rfl | rfl | rfl
    · refine wpAt_of rfl rfl ?_
      simp only [frOf, Act.put]
      go_wp2_with fail
      first | exact ⟨trivial, rfl, trivial, hS⟩ | exact ⟨rfl, trivial, hS⟩ | exact ⟨trivial, rfl, trivial⟩ | exact ⟨rfl, trivial⟩ | exact rfl
    · have k0 : vals 0 = .pointer (some ⟨w.heap.size + 1 + 1, 1, none⟩) := hφ 0 (hd 0 (by decide))
      have c1 := hS.cell mV (i := 1) rfl
      dsimp only at c1
      refine wpAt_of rfl rfl ?_
      simp only [frOf, Act.put]
      go_wp2_with fail
      first | exact ⟨trivial, rfl, trivial, hS⟩ | exact ⟨rfl, trivial, hS⟩ | exact ⟨trivial, rfl, trivial⟩ | exact ⟨rfl, trivial⟩ | exact rfl
    · refine wpAt_of rfl rfl ?_
      simp only [frOf, Act.put]
      go_wp2_with fail
      first | exact ⟨trivial, rfl, trivial, hS⟩ | exact ⟨rfl, trivial, hS⟩ | exact ⟨trivial, rfl, trivial⟩ | exact ⟨rfl, trivial⟩ | exact rfl
    · have k1 : vals 1 = .int .i64 ai := hφ 1 (hd 1 (by decide))
      have k2 : vals 2 = .pointer (some ⟨w.heap.size, 1, none⟩) := hφ 2 (hd 2 (by decide))
      refine wpAt_of rfl rfl ?_
      simp only [frOf, Act.put]
      go_wp2_with fail
      first | exact ⟨trivial, rfl, trivial, hS⟩ | exact ⟨rfl, trivial, hS⟩ | exact ⟨trivial, rfl, trivial⟩ | exact ⟨rfl, trivial⟩ | exact rfl
    · have k3 : vals 3 = .pointer (some ⟨w.heap.size, 1 + ai * 2, none⟩) := hφ 3 (hd 3 (by decide))
      have d0 := hS.cell mA (i := 1 + ai * 2) (cellAt_lo true l h (by omega))
      have d1 := hS.cell mA (i := 1 + ai * 2 + 1) (cellAt_hi true l h (by omega))
      dsimp only at d0 d1
      refine wpAt_of rfl rfl ?_
      simp only [frOf, Act.put]
      go_wp2_with fail
      first | exact ⟨trivial, rfl, trivial, hS⟩ | exact ⟨rfl, trivial, hS⟩ | exact ⟨trivial, rfl, trivial⟩ | exact ⟨rfl, trivial⟩ | exact rfl
    · refine wpAt_of rfl rfl ?_
      simp only [frOf, Act.put]
      go_wp2_with fail
      refine (itvPlacesI _).mono ?_
      rintro e W' ⟨rfl, hb⟩
      go_wp2_with fail
      first | exact ⟨trivial, rfl, trivial, HX.next hb hS⟩ | exact ⟨rfl, trivial, HX.next hb hS⟩ | exact ⟨trivial, rfl, trivial⟩ | exact ⟨rfl, trivial⟩ | exact rfl
    · have k4 : vals 4 = .agg #[.int .i64 (l ai), .int .i64 (h ai)] := hφ 4 (hd 4 (by decide))
      have k5 : vals 5 = .agg #[.int .i64 0, .int .i64 3] := hφ 5 (hd 5 (by decide))
      refine wpAt_of rfl rfl ?_
      simp only [frOf, Act.put]
      go_wp2_with fail
      refine (itvInI _ _ _ _ _).mono ?_
      rintro e W' ⟨rfl, hb⟩
      rw [hq.out]
      go_wp2_with fail
      first | exact ⟨trivial, rfl, trivial, HX.next hb hS⟩ | exact ⟨rfl, trivial, HX.next hb hS⟩ | exact ⟨trivial, rfl, trivial⟩ | exact ⟨rfl, trivial⟩ | exact rfl
    · have k6 : vals 6 = .bool q := hφ 6 (hd 6 (by decide))
      refine wpAt_of rfl rfl ?_
      simp only [frOf, Act.put]
      go_wp2_with fail
      first | exact ⟨trivial, rfl, trivial, hS⟩ | exact ⟨rfl, trivial, hS⟩ | exact ⟨trivial, rfl, trivial⟩ | exact ⟨rfl, trivial⟩ | exact rfl
    · have k7 : vals 7 = .bool !q := hφ 7 (hd 7 (by decide))
      refine wpAt_of rfl rfl ?_
      simp only [frOf, Act.put]
      go_wp2_with fail
      first | exact ⟨trivial, rfl, trivial, hS⟩ | exact ⟨rfl, trivial, hS⟩ | exact ⟨trivial, rfl, trivial⟩ | exact ⟨rfl, trivial⟩ | exact rfl
  · intro L vals W hall hφ hS
    have k0 : vals 0 = .pointer (some ⟨w.heap.size + 1 + 1, 1, none⟩) := hφ 0 (by decide)
    have k1 : vals 1 = .int .i64 ai := hφ 1 (by decide)
    have k2 : vals 2 = .pointer (some ⟨w.heap.size, 1, none⟩) := hφ 2 (by decide)
    have k3 : vals 3 = .pointer (some ⟨w.heap.size, 1 + ai * 2, none⟩) := hφ 3 (by decide)
    have k4 : vals 4 = .agg #[.int .i64 (l ai), .int .i64 (h ai)] := hφ 4 (by decide)
    have k5 : vals 5 = .agg #[.int .i64 0, .int .i64 3] := hφ 5 (by decide)
    have k6 : vals 6 = .bool q := hφ 6 (by decide)
    have k7 : vals 7 = .bool !q := hφ 7 (by decide)
    have k8 : vals 8 = .bool !q := hφ 8 (by decide)
    simp only [frOf, Act.put, List.setIfInBounds_toArray, List.set_cons_succ, List.set_cons_zero, k0, k1, k2, k3, k4, k5, k6, k7, k8]
    clear k0 k1 k2 k3 k4 k5 k6 k7 k8 hall hφ hS0
    have H := hS.1
    go_wp2_with fail
    go_ret
    exact ⟨ret_bool (by rw [← hq.out]), H.below⟩
set_option maxRecDepth 10000 in
set_option maxHeartbeats 8000000 in
theorem mayI_store (pa : Option Addr) (m pc : Nat) (l h : Nat → Int) (ai bi : Nat) (w : World) (hai : ai < 4) (hbi : bi < 4) :
    Calls Try.prog 78 #[.agg #[.bool true, .int .i64 (l 0), .int .i64 (h 0), .int .i64 (l 1), .int .i64 (h 1), .int .i64 (l 2), .int .i64 (h 2), .int .i64 (l 3), .int .i64 (h 3), .int .i64 (l 4), .int .i64 (h 4)], .agg #[.slice pa m pc], .iface 164 (.agg #[.int .i64 (ai : Int), .int .i64 (bi : Int)])] w fun e w' => e = .returned (.bool (!itvIn (l ai) (h ai) 0 3)) ∧ Below w.heap.size w w' := by
  have H : HeldL w [(w.heap.size + 1 + 1, [Value.int .i64 (ai : Int), .int .i64 (bi : Int)]), (w.heap.size + 1, [Value.slice pa m pc]), (w.heap.size, [Value.bool true, .int .i64 (l 0), .int .i64 (h 0), .int .i64 (l 1), .int .i64 (h 1), .int .i64 (l 2), .int .i64 (h 2), .int .i64 (l 3), .int .i64 (h 3), .int .i64 (l 4), .int .i64 (h 4)])] (((w.alloc (.cells #[.bool true, .int .i64 (l 0), .int .i64 (h 0), .int .i64 (l 1), .int .i64 (h 1), .int .i64 (l 2), .int .i64 (h 2), .int .i64 (l 3), .int .i64 (h 3), .int .i64 (l 4), .int .i64 (h 4)] 129)).alloc (.cells #[.slice pa m pc] 35)).alloc (.cells #[.int .i64 (ai : Int), .int .i64 (bi : Int)] 164)) := by
    have e1 : w.heap.size + 1 = (w.alloc (.cells #[.bool true, .int .i64 (l 0), .int .i64 (h 0), .int .i64 (l 1), .int .i64 (h 1), .int .i64 (l 2), .int .i64 (h 2), .int .i64 (l 3), .int .i64 (h 3), .int .i64 (l 4), .int .i64 (h 4)] 129)).heap.size := by simp
    have e2 : w.heap.size + 1 + 1 = ((w.alloc (.cells #[.bool true, .int .i64 (l 0), .int .i64 (h 0), .int .i64 (l 1), .int .i64 (h 1), .int .i64 (l 2), .int .i64 (h 2), .int .i64 (l 3), .int .i64 (h 3), .int .i64 (l 4), .int .i64 (h 4)] 129)).alloc (.cells #[.slice pa m pc] 35)).heap.size := by simp
    rw [e2, e1]
    exact HeldL.newL (vs := [Value.int .i64 (ai : Int), .int .i64 (bi : Int)]) (HeldL.newL (vs := [Value.slice pa m pc]) (HeldL.newL (vs := [Value.bool true, .int .i64 (l 0), .int .i64 (h 0), .int .i64 (l 1), .int .i64 (h 1), .int .i64 (l 2), .int .i64 (h 2), .int .i64 (l 3), .int .i64 (h 3), .int .i64 (l 4), .int .i64 (h 4)]) (HeldL.nil w)))
  obtain ⟨Lb, hLb⟩ : ∃ L, L = [(w.heap.size + 1 + 1, [Value.int .i64 (ai : Int), .int .i64 (bi : Int)]), (w.heap.size + 1, [Value.slice pa m pc]), (w.heap.size, [Value.bool true, .int .i64 (l 0), .int .i64 (h 0), .int .i64 (l 1), .int .i64 (h 1), .int .i64 (l 2), .int .i64 (h 2), .int .i64 (l 3), .int .i64 (h 3), .int .i64 (l 4), .int .i64 (h 4)])] := ⟨_, rfl⟩
  have mA : (w.heap.size, [Value.bool true, .int .i64 (l 0), .int .i64 (h 0), .int .i64 (l 1), .int .i64 (h 1), .int .i64 (l 2), .int .i64 (h 2), .int .i64 (l 3), .int .i64 (h 3), .int .i64 (l 4), .int .i64 (h 4)]) ∈ Lb := by rw [hLb]; simp
  have mP : (w.heap.size + 1, [Value.slice pa m pc]) ∈ Lb := by rw [hLb]; simp
  have mV : (w.heap.size + 1 + 1, [Value.int .i64 (ai : Int), .int .i64 (bi : Int)]) ∈ Lb := by rw [hLb]; simp
  rw [← hLb] at H
  clear hLb
  have t1ai : ((ai : Int)).toNat = ai := by omega
  have t2ai : (0 : Int) ≤ (ai : Int) := by omega
  have t3ai : (ai : Int) < 5 := by omega
  have t1bi : ((bi : Int)).toNat = bi := by omega
  have t2bi : (0 : Int) ≤ (bi : Int) := by omega
  have t3bi : (bi : Int) < 5 := by omega
  obtain ⟨q, hq'⟩ : ∃ q, itvIn (l ai) (h ai) 0 3 = q := ⟨_, rfl⟩
  have hq : Hid (itvIn (l ai) (h ai) 0 3 = q) := hq'
  clear hq'
  obtain ⟨V, hV⟩ : ∃ V, V = (((w.alloc (.cells #[.bool true, .int .i64 (l 0), .int .i64 (h 0), .int .i64 (l 1), .int .i64 (h 1), .int .i64 (l 2), .int .i64 (h 2), .int .i64 (l 3), .int .i64 (h 3), .int .i64 (l 4), .int .i64 (h 4)] 129)).alloc (.cells #[.slice pa m pc] 35)).alloc (.cells #[.int .i64 (ai : Int), .int .i64 (bi : Int)] 164)) := ⟨_, rfl⟩
  rw [← hV] at H
  have hS0 : HX w V Lb V.drew := ⟨H.drew, (Below.refl _ V).drew⟩
  clear H
  have ta0 := fun w => tao (T := 164) (S := 160) (z := .agg #[.int .i64 0, .int .i64 0, .int .i64 0, .int .i64 0]) Try.underlying160 (by kernel_rfl) (by decide) (.agg #[.int .i64 (ai : Int), .int .i64 (bi : Int)]) 133 w
  have ta1 := fun w => tao (T := 164) (S := 162) (z := .agg #[.int .i64 0, .int .i64 0]) Try.underlying162 (by kernel_rfl) (by decide) (.agg #[.int .i64 (ai : Int), .int .i64 (bi : Int)]) 133 w
  have ta2 := fun w => tas Try.underlying164 (.agg #[.int .i64 (ai : Int), .int .i64 (bi : Int)]) 133 w
  go_enter Try.func78, Try.ntmps78
  go_wp2_with fail
  rw [← hV]
  clear hV
  refine region_inv3 [(0, 44), (1, 45), (2, 46), (3, 47), (4, 48), (5, 49), (6, 50), (7, 51), (8, 6)]
    (fun j v _ => match j with
      | 0 => Is (.pointer (some ⟨w.heap.size + 1 + 1, 0, none⟩)) v
      | 1 => Is (.int .i64 ai) v
      | 2 => Is (.pointer (some ⟨w.heap.size, 1, none⟩)) v
      | 3 => Is (.pointer (some ⟨w.heap.size, 1 + ai * 2, none⟩)) v
      | 4 => Is (.agg #[.int .i64 (l ai), .int .i64 (h ai)]) v
      | 5 => Is (.agg #[.int .i64 0, .int .i64 3]) v
      | 6 => Is (.bool q) v
      | 7 => Is (.bool !q) v
      | 8 => Is (.bool !q) v
      | _ => True)
    (fun _ W => HX w V Lb W) TT
    (by kernel_rfl) (by kernel_rfl) (by kernel_rfl) (by kernel_rfl) (by kernel_rfl) rfl hS0 (fun i j v W W' _ h _ => h) ?_ ?_
  · intro i L vals W hi' hφ hS hL hd
    have hi2 : i < 9 := hi'
    clear hi'
    rcases (show i = 0 ∨ i = 1 ∨ i = 2 ∨ i = 3 ∨ i = 4 ∨ i = 5 ∨ i = 6 ∨ i = 7 ∨ i = 8 by omega) with rfl | rfl | rfl | rfl | rfl | rfl | rfl | rfl | rfl
    · refine wpAt_of rfl rfl ?_
      simp only [frOf, Act.put]
      go_wp2_with fail
      first | exact ⟨trivial, rfl, trivial, hS⟩ | exact ⟨rfl, trivial, hS⟩ | exact ⟨trivial, rfl, trivial⟩ | exact ⟨rfl, trivial⟩ | exact rfl
    · have k0 : vals 0 = .pointer (some ⟨w.heap.size + 1 + 1, 0, none⟩) := hφ 0 (hd 0 (by decide))
      have c0 := hS.cell mV (i := 0) rfl
      dsimp only at c0
      refine wpAt_of rfl rfl ?_
      simp only [frOf, Act.put]
      go_wp2_with fail
      first | exact ⟨trivial, rfl, trivial, hS⟩ | exact ⟨rfl, trivial, hS⟩ | exact ⟨trivial, rfl, trivial⟩ | exact ⟨rfl, trivial⟩ | exact rfl
    · refine wpAt_of rfl rfl ?_
      simp only [frOf, Act.put]
      go_wp2_with fail
      first | exact ⟨trivial, rfl, trivial, hS⟩ | exact ⟨rfl, trivial, hS⟩ | exact ⟨trivial, rfl, trivial⟩ | exact ⟨rfl, trivial⟩ | exact rfl
    · have k1 : vals 1 = .int .i64 ai := hφ 1 (hd 1 (by decide))
      have k2 : vals 2 = .pointer (some ⟨w.heap.size, 1, none⟩) := hφ 2 (hd 2 (by decide))
      refine wpAt_of rfl rfl ?_
      simp only [frOf, Act.put]
      go_wp2_with fail
      first | exact ⟨trivial, rfl, trivial, hS⟩ | exact ⟨rfl, trivial, hS⟩ | exact ⟨trivial, rfl, trivial⟩ | exact ⟨rfl, trivial⟩ | exact rfl
    · have k3 : vals 3 = .pointer (some ⟨w.heap.size, 1 + ai * 2, none⟩) := hφ 3 (hd 3 (by decide))
      have d0 := hS.cell mA (i := 1 + ai * 2) (cellAt_lo true l h (by omega))
      have d1 := hS.cell mA (i := 1 + ai * 2 + 1) (cellAt_hi true l h (by omega))
      dsimp only at d0 d1
      refine wpAt_of rfl rfl ?_
      simp only [frOf, Act.put]
      go_wp2_with fail
      first | exact ⟨trivial, rfl, trivial, hS⟩ | exact ⟨rfl, trivial, hS⟩ | exact ⟨trivial, rfl, trivial⟩ | exact ⟨rfl, trivial⟩ | exact rfl
    · refine wpAt_of rfl rfl ?_
      simp only [frOf, Act.put]
      go_wp2_with fail
      refine (itvPlacesI _).mono ?_
      rintro e W' ⟨rfl, hb⟩
      go_wp2_with fail
      first | exact ⟨trivial, rfl, trivial, HX.next hb hS⟩ | exact ⟨rfl, trivial, HX.next hb hS⟩ | exact ⟨trivial, rfl, trivial⟩ | exact ⟨rfl, trivial⟩ | exact rfl
    · have k4 : vals 4 = .agg #[.int .i64 (l ai), .int .i64 (h ai)] := hφ 4 (hd 4 (by decide))
      have k5 : vals 5 = .agg #[.int .i64 0, .int .i64 3] := hφ 5 (hd 5 (by decide))
      refine wpAt_of rfl rfl ?_
      simp only [frOf, Act.put]
      go_wp2_with fail
      refine (itvInI _ _ _ _ _).mono ?_
      rintro e W' ⟨rfl, hb⟩
      rw [hq.out]
      go_wp2_with fail
      first | exact ⟨trivial, rfl, trivial, HX.next hb hS⟩ | exact ⟨rfl, trivial, HX.next hb hS⟩ | exact ⟨trivial, rfl, trivial⟩ | exact ⟨rfl, trivial⟩ | exact rfl
    · have k6 : vals 6 = .bool q := hφ 6 (hd 6 (by decide))
      refine wpAt_of rfl rfl ?_
      simp only [frOf, Act.put]
      go_wp2_with fail
      first | exact ⟨trivial, rfl, trivial, hS⟩ | exact ⟨rfl, trivial, hS⟩ | exact ⟨trivial, rfl, trivial⟩ | exact ⟨rfl, trivial⟩ | exact rfl
    · have k7 : vals 7 = .bool !q := hφ 7 (hd 7 (by decide))
      refine wpAt_of rfl rfl ?_
      simp only [frOf, Act.put]
      go_wp2_with fail
      first | exact ⟨trivial, rfl, trivial, hS⟩ | exact ⟨rfl, trivial, hS⟩ | exact ⟨trivial, rfl, trivial⟩ | exact ⟨rfl, trivial⟩ | exact rfl
  · intro L vals W hall hφ hS
    have k0 : vals 0 = .pointer (some ⟨w.heap.size + 1 + 1, 0, none⟩) := hφ 0 (by decide)
    have k1 : vals 1 = .int .i64 ai := hφ 1 (by decide)
    have k2 : vals 2 = .pointer (some ⟨w.heap.size, 1, none⟩) := hφ 2 (by decide)
    have k3 : vals 3 = .pointer (some ⟨w.heap.size, 1 + ai * 2, none⟩) := hφ 3 (by decide)
    have k4 : vals 4 = .agg #[.int .i64 (l ai), .int .i64 (h ai)] := hφ 4 (by decide)
    have k5 : vals 5 = .agg #[.int .i64 0, .int .i64 3] := hφ 5 (by decide)
    have k6 : vals 6 = .bool q := hφ 6 (by decide)
    have k7 : vals 7 = .bool !q := hφ 7 (by decide)
    have k8 : vals 8 = .bool !q := hφ 8 (by decide)
    simp only [frOf, Act.put, List.setIfInBounds_toArray, List.set_cons_succ, List.set_cons_zero, k0, k1, k2, k3, k4, k5, k6, k7, k8]
    clear k0 k1 k2 k3 k4 k5 k6 k7 k8 hall hφ hS0
    have H := hS.1
    go_wp2_with fail
    go_ret
    exact ⟨ret_bool (by rw [← hq.out]), H.below⟩
set_option maxRecDepth 10000 in
set_option maxHeartbeats 8000000 in
theorem mayI_call (pb po m pc : Nat) (P : Nat → Proc) (S : Nat → Spot) (l h : Nat → Int) (ti ai : Nat) (d : Int) (w : World) (hti : ti < m) (hai : ai < 4) (hP : ProcsAt (some ⟨pb, po, none⟩) pb po m P S w) :
    Calls Try.prog 78 #[.agg #[.bool true, .int .i64 (l 0), .int .i64 (h 0), .int .i64 (l 1), .int .i64 (h 1), .int .i64 (l 2), .int .i64 (h 2), .int .i64 (l 3), .int .i64 (h 3), .int .i64 (l 4), .int .i64 (h 4)], .agg #[.slice (some ⟨pb, po, none⟩) m pc], .iface 166 (.agg #[.int .i64 d, .int .i64 (ti : Int), .int .i64 (ai : Int)])] w fun e w' => e = .returned (.bool (!itvIn (l ai) (h ai) (P ti).lo (P ti).hi)) ∧ Below w.heap.size w w' := by
  have H : HeldL w [(w.heap.size + 1 + 1, [Value.int .i64 d, .int .i64 (ti : Int), .int .i64 (ai : Int)]), (w.heap.size + 1, [Value.slice (some ⟨pb, po, none⟩) m pc]), (w.heap.size, [Value.bool true, .int .i64 (l 0), .int .i64 (h 0), .int .i64 (l 1), .int .i64 (h 1), .int .i64 (l 2), .int .i64 (h 2), .int .i64 (l 3), .int .i64 (h 3), .int .i64 (l 4), .int .i64 (h 4)])] (((w.alloc (.cells #[.bool true, .int .i64 (l 0), .int .i64 (h 0), .int .i64 (l 1), .int .i64 (h 1), .int .i64 (l 2), .int .i64 (h 2), .int .i64 (l 3), .int .i64 (h 3), .int .i64 (l 4), .int .i64 (h 4)] 129)).alloc (.cells #[.slice (some ⟨pb, po, none⟩) m pc] 35)).alloc (.cells #[.int .i64 d, .int .i64 (ti : Int), .int .i64 (ai : Int)] 166)) := by
    have e1 : w.heap.size + 1 = (w.alloc (.cells #[.bool true, .int .i64 (l 0), .int .i64 (h 0), .int .i64 (l 1), .int .i64 (h 1), .int .i64 (l 2), .int .i64 (h 2), .int .i64 (l 3), .int .i64 (h 3), .int .i64 (l 4), .int .i64 (h 4)] 129)).heap.size := by simp
    have e2 : w.heap.size + 1 + 1 = ((w.alloc (.cells #[.bool true, .int .i64 (l 0), .int .i64 (h 0), .int .i64 (l 1), .int .i64 (h 1), .int .i64 (l 2), .int .i64 (h 2), .int .i64 (l 3), .int .i64 (h 3), .int .i64 (l 4), .int .i64 (h 4)] 129)).alloc (.cells #[.slice (some ⟨pb, po, none⟩) m pc] 35)).heap.size := by simp
    rw [e2, e1]
    exact HeldL.newL (vs := [Value.int .i64 d, .int .i64 (ti : Int), .int .i64 (ai : Int)]) (HeldL.newL (vs := [Value.slice (some ⟨pb, po, none⟩) m pc]) (HeldL.newL (vs := [Value.bool true, .int .i64 (l 0), .int .i64 (h 0), .int .i64 (l 1), .int .i64 (h 1), .int .i64 (l 2), .int .i64 (h 2), .int .i64 (l 3), .int .i64 (h 3), .int .i64 (l 4), .int .i64 (h 4)]) (HeldL.nil w)))
  obtain ⟨Lb, hLb⟩ : ∃ L, L = [(w.heap.size + 1 + 1, [Value.int .i64 d, .int .i64 (ti : Int), .int .i64 (ai : Int)]), (w.heap.size + 1, [Value.slice (some ⟨pb, po, none⟩) m pc]), (w.heap.size, [Value.bool true, .int .i64 (l 0), .int .i64 (h 0), .int .i64 (l 1), .int .i64 (h 1), .int .i64 (l 2), .int .i64 (h 2), .int .i64 (l 3), .int .i64 (h 3), .int .i64 (l 4), .int .i64 (h 4)])] := ⟨_, rfl⟩
  have mA : (w.heap.size, [Value.bool true, .int .i64 (l 0), .int .i64 (h 0), .int .i64 (l 1), .int .i64 (h 1), .int .i64 (l 2), .int .i64 (h 2), .int .i64 (l 3), .int .i64 (h 3), .int .i64 (l 4), .int .i64 (h 4)]) ∈ Lb := by rw [hLb]; simp
  have mP : (w.heap.size + 1, [Value.slice (some ⟨pb, po, none⟩) m pc]) ∈ Lb := by rw [hLb]; simp
  have mV : (w.heap.size + 1 + 1, [Value.int .i64 d, .int .i64 (ti : Int), .int .i64 (ai : Int)]) ∈ Lb := by rw [hLb]; simp
  rw [← hLb] at H
  clear hLb
  have t1ti : ((ti : Int)).toNat = ti := by omega
  have t2ti : (0 : Int) ≤ (ti : Int) := by omega
  have t3ti : (ti : Int) < m := by omega
  have t1ai : ((ai : Int)).toNat = ai := by omega
  have t2ai : (0 : Int) ≤ (ai : Int) := by omega
  have t3ai : (ai : Int) < 5 := by omega
  obtain ⟨q, hq'⟩ : ∃ q, itvIn (l ai) (h ai) (P ti).lo (P ti).hi = q := ⟨_, rfl⟩
  have hq : Hid (itvIn (l ai) (h ai) (P ti).lo (P ti).hi = q) := hq'
  clear hq'
  obtain ⟨V, hV⟩ : ∃ V, V = (((w.alloc (.cells #[.bool true, .int .i64 (l 0), .int .i64 (h 0), .int .i64 (l 1), .int .i64 (h 1), .int .i64 (l 2), .int .i64 (h 2), .int .i64 (l 3), .int .i64 (h 3), .int .i64 (l 4), .int .i64 (h 4)] 129)).alloc (.cells #[.slice (some ⟨pb, po, none⟩) m pc] 35)).alloc (.cells #[.int .i64 d, .int .i64 (ti : Int), .int .i64 (ai : Int)] 166)) := ⟨_, rfl⟩
  rw [← hV] at H
  have hS0 : HX w V Lb V.drew := ⟨H.drew, (Below.refl _ V).drew⟩
  clear H
  have ta0 := fun w => tao (T := 166) (S := 160) (z := .agg #[.int .i64 0, .int .i64 0, .int .i64 0, .int .i64 0]) Try.underlying160 (by kernel_rfl) (by decide) (.agg #[.int .i64 d, .int .i64 (ti : Int), .int .i64 (ai : Int)]) 133 w
  have ta1 := fun w => tao (T := 166) (S := 162) (z := .agg #[.int .i64 0, .int .i64 0]) Try.underlying162 (by kernel_rfl) (by decide) (.agg #[.int .i64 d, .int .i64 (ti : Int), .int .i64 (ai : Int)]) 133 w
  have ta2 := fun w => tao (T := 166) (S := 164) (z := .agg #[.int .i64 0, .int .i64 0]) Try.underlying164 (by kernel_rfl) (by decide) (.agg #[.int .i64 d, .int .i64 (ti : Int), .int .i64 (ai : Int)]) 133 w
  have ta3 := fun w => tas Try.underlying166 (.agg #[.int .i64 d, .int .i64 (ti : Int), .int .i64 (ai : Int)]) 133 w
  go_enter Try.func78, Try.ntmps78
  go_wp2_with fail
  rw [← hV]
  clear hV
  refine region_inv3 [(0, 55), (1, 56), (2, 57), (3, 58), (4, 59), (5, 60), (6, 61), (7, 62), (8, 63), (9, 64), (10, 65), (11, 66), (12, 67), (13, 68), (14, 6)]
    (fun j v _ => match j with
      | 0 => Is (.pointer (some ⟨w.heap.size + 1 + 1, 2, none⟩)) v
      | 1 => Is (.int .i64 ai) v
      | 2 => Is (.pointer (some ⟨w.heap.size, 1, none⟩)) v
      | 3 => Is (.pointer (some ⟨w.heap.size, 1 + ai * 2, none⟩)) v
      | 4 => Is (.agg #[.int .i64 (l ai), .int .i64 (h ai)]) v
      | 5 => Is (.pointer (some ⟨w.heap.size + 1, 0, none⟩)) v
      | 6 => Is (.slice (some ⟨pb, po, none⟩) m pc) v
      | 7 => Is (.pointer (some ⟨w.heap.size + 1 + 1, 1, none⟩)) v
      | 8 => Is (.int .i64 ti) v
      | 9 => Is (.pointer (some ⟨pb, po + ti * 3, none⟩)) v
      | 10 => Is (.agg #[.int .i64 (P ti).lo, .int .i64 (P ti).hi, .slice (S ti).a (P ti).n (S ti).cap]) v
      | 11 => Is (.agg #[.int .i64 (P ti).lo, .int .i64 (P ti).hi]) v
      | 12 => Is (.bool q) v
      | 13 => Is (.bool !q) v
      | 14 => Is (.bool !q) v
      | _ => True)
    (fun _ W => HX w V Lb W) TT
    (by kernel_rfl) (by kernel_rfl) (by kernel_rfl) (by kernel_rfl) (by kernel_rfl) rfl hS0 (fun i j v W W' _ h _ => h) ?_ ?_
  · intro i L vals W hi' hφ hS hL hd
    have hi2 : i < 15 := hi'
    clear hi'
    rcases (show i = 0 ∨ i = 1 ∨ i = 2 ∨ i = 3 ∨ i = 4 ∨ i = 5 ∨ i = 6 ∨ i = 7 ∨ i = 8 ∨ i = 9 ∨ i = 10 ∨ i = 11 ∨ i = 12 ∨ i = 13 ∨ i = 14 by omega) with rfl | rfl | rfl | rfl | rfl | rfl | rfl | rfl | rfl | rfl | rfl | rfl | rfl | rfl | rfl
    · refine wpAt_of rfl rfl ?_
      simp only [frOf, Act.put]
      go_wp2_with fail
      first | exact ⟨trivial, rfl, trivial, hS⟩ | exact ⟨rfl, trivial, hS⟩ | exact ⟨trivial, rfl, trivial⟩ | exact ⟨rfl, trivial⟩ | exact rfl
    · have k0 : vals 0 = .pointer (some ⟨w.heap.size + 1 + 1, 2, none⟩) := hφ 0 (hd 0 (by decide))
      have c2 := hS.cell mV (i := 2) rfl
      dsimp only at c2
      refine wpAt_of rfl rfl ?_
      simp only [frOf, Act.put]
      go_wp2_with fail
      first | exact ⟨trivial, rfl, trivial, hS⟩ | exact ⟨rfl, trivial, hS⟩ | exact ⟨trivial, rfl, trivial⟩ | exact ⟨rfl, trivial⟩ | exact rfl
    · refine wpAt_of rfl rfl ?_
      simp only [frOf, Act.put]
      go_wp2_with fail
      first | exact ⟨trivial, rfl, trivial, hS⟩ | exact ⟨rfl, trivial, hS⟩ | exact ⟨trivial, rfl, trivial⟩ | exact ⟨rfl, trivial⟩ | exact rfl
    · have k1 : vals 1 = .int .i64 ai := hφ 1 (hd 1 (by decide))
      have k2 : vals 2 = .pointer (some ⟨w.heap.size, 1, none⟩) := hφ 2 (hd 2 (by decide))
      refine wpAt_of rfl rfl ?_
      simp only [frOf, Act.put]
      go_wp2_with fail
      first | exact ⟨trivial, rfl, trivial, hS⟩ | exact ⟨rfl, trivial, hS⟩ | exact ⟨trivial, rfl, trivial⟩ | exact ⟨rfl, trivial⟩ | exact rfl
    · have k3 : vals 3 = .pointer (some ⟨w.heap.size, 1 + ai * 2, none⟩) := hφ 3 (hd 3 (by decide))
      have d0 := hS.cell mA (i := 1 + ai * 2) (cellAt_lo true l h (by omega))
      have d1 := hS.cell mA (i := 1 + ai * 2 + 1) (cellAt_hi true l h (by omega))
      dsimp only at d0 d1
      refine wpAt_of rfl rfl ?_
      simp only [frOf, Act.put]
      go_wp2_with fail
      first | exact ⟨trivial, rfl, trivial, hS⟩ | exact ⟨rfl, trivial, hS⟩ | exact ⟨trivial, rfl, trivial⟩ | exact ⟨rfl, trivial⟩ | exact rfl
    · refine wpAt_of rfl rfl ?_
      simp only [frOf, Act.put]
      go_wp2_with fail
      first | exact ⟨trivial, rfl, trivial, hS⟩ | exact ⟨rfl, trivial, hS⟩ | exact ⟨trivial, rfl, trivial⟩ | exact ⟨rfl, trivial⟩ | exact rfl
    · have k5 : vals 5 = .pointer (some ⟨w.heap.size + 1, 0, none⟩) := hφ 5 (hd 5 (by decide))
      have y0 := hS.cell mP (i := 0) rfl
      dsimp only at y0
      refine wpAt_of rfl rfl ?_
      simp only [frOf, Act.put]
      go_wp2_with fail
      first | exact ⟨trivial, rfl, trivial, hS⟩ | exact ⟨rfl, trivial, hS⟩ | exact ⟨trivial, rfl, trivial⟩ | exact ⟨rfl, trivial⟩ | exact rfl
    · refine wpAt_of rfl rfl ?_
      simp only [frOf, Act.put]
      go_wp2_with fail
      first | exact ⟨trivial, rfl, trivial, hS⟩ | exact ⟨rfl, trivial, hS⟩ | exact ⟨trivial, rfl, trivial⟩ | exact ⟨rfl, trivial⟩ | exact rfl
    · have k7 : vals 7 = .pointer (some ⟨w.heap.size + 1 + 1, 1, none⟩) := hφ 7 (hd 7 (by decide))
      have c1 := hS.cell mV (i := 1) rfl
      dsimp only at c1
      refine wpAt_of rfl rfl ?_
      simp only [frOf, Act.put]
      go_wp2_with fail
      first | exact ⟨trivial, rfl, trivial, hS⟩ | exact ⟨rfl, trivial, hS⟩ | exact ⟨trivial, rfl, trivial⟩ | exact ⟨rfl, trivial⟩ | exact rfl
    · have k6 : vals 6 = .slice (some ⟨pb, po, none⟩) m pc := hφ 6 (hd 6 (by decide))
      have k8 : vals 8 = .int .i64 ti := hφ 8 (hd 8 (by decide))
      refine wpAt_of rfl rfl ?_
      simp only [frOf, Act.put]
      go_wp2_with fail
      first | exact ⟨trivial, rfl, trivial, hS⟩ | exact ⟨rfl, trivial, hS⟩ | exact ⟨trivial, rfl, trivial⟩ | exact ⟨rfl, trivial⟩ | exact rfl
    · have k9 : vals 9 = .pointer (some ⟨pb, po + ti * 3, none⟩) := hφ 9 (hd 9 (by decide))
      have dd := hP.next hS.below
      have d0 := dd.lo ti hti
      have d1 := dd.hi ti hti
      have d2 := dd.code ti hti
      clear dd
      refine wpAt_of rfl rfl ?_
      simp only [frOf, Act.put]
      go_wp2_with fail
      first | exact ⟨trivial, rfl, trivial, hS⟩ | exact ⟨rfl, trivial, hS⟩ | exact ⟨trivial, rfl, trivial⟩ | exact ⟨rfl, trivial⟩ | exact rfl
    · have k10 : vals 10 = .agg #[.int .i64 (P ti).lo, .int .i64 (P ti).hi, .slice (S ti).a (P ti).n (S ti).cap] := hφ 10 (hd 10 (by decide))
      refine wpAt_of rfl rfl ?_
      simp only [frOf, Act.put]
      go_wp2_with fail
      refine (givenI _ _ _ _ _ _).mono ?_
      rintro e W' ⟨rfl, hb⟩
      go_wp2_with fail
      first | exact ⟨trivial, rfl, trivial, HX.next hb hS⟩ | exact ⟨rfl, trivial, HX.next hb hS⟩ | exact ⟨trivial, rfl, trivial⟩ | exact ⟨rfl, trivial⟩ | exact rfl
    · have k4 : vals 4 = .agg #[.int .i64 (l ai), .int .i64 (h ai)] := hφ 4 (hd 4 (by decide))
      have k11 : vals 11 = .agg #[.int .i64 (P ti).lo, .int .i64 (P ti).hi] := hφ 11 (hd 11 (by decide))
      refine wpAt_of rfl rfl ?_
      simp only [frOf, Act.put]
      go_wp2_with fail
      refine (itvInI _ _ _ _ _).mono ?_
      rintro e W' ⟨rfl, hb⟩
      rw [hq.out]
      go_wp2_with fail
      first | exact ⟨trivial, rfl, trivial, HX.next hb hS⟩ | exact ⟨rfl, trivial, HX.next hb hS⟩ | exact ⟨trivial, rfl, trivial⟩ | exact ⟨rfl, trivial⟩ | exact rfl
    · have k12 : vals 12 = .bool q := hφ 12 (hd 12 (by decide))
      refine wpAt_of rfl rfl ?_
      simp only [frOf, Act.put]
      go_wp2_with fail
      first | exact ⟨trivial, rfl, trivial, hS⟩ | exact ⟨rfl, trivial, hS⟩ | exact ⟨trivial, rfl, trivial⟩ | exact ⟨rfl, trivial⟩ | exact rfl
    · have k13 : vals 13 = .bool !q := hφ 13 (hd 13 (by decide))
      refine wpAt_of rfl rfl ?_
      simp only [frOf, Act.put]
      go_wp2_with fail
      first | exact ⟨trivial, rfl, trivial, hS⟩ | exact ⟨rfl, trivial, hS⟩ | exact ⟨trivial, rfl, trivial⟩ | exact ⟨rfl, trivial⟩ | exact rfl
  · intro L vals W hall hφ hS
    have k0 : vals 0 = .pointer (some ⟨w.heap.size + 1 + 1, 2, none⟩) := hφ 0 (by decide)
    have k1 : vals 1 = .int .i64 ai := hφ 1 (by decide)
    have k2 : vals 2 = .pointer (some ⟨w.heap.size, 1, none⟩) := hφ 2 (by decide)
    have k3 : vals 3 = .pointer (some ⟨w.heap.size, 1 + ai * 2, none⟩) := hφ 3 (by decide)
    have k4 : vals 4 = .agg #[.int .i64 (l ai), .int .i64 (h ai)] := hφ 4 (by decide)
    have k5 : vals 5 = .pointer (some ⟨w.heap.size + 1, 0, none⟩) := hφ 5 (by decide)
    have k6 : vals 6 = .slice (some ⟨pb, po, none⟩) m pc := hφ 6 (by decide)
    have k7 : vals 7 = .pointer (some ⟨w.heap.size + 1 + 1, 1, none⟩) := hφ 7 (by decide)
    have k8 : vals 8 = .int .i64 ti := hφ 8 (by decide)
    have k9 : vals 9 = .pointer (some ⟨pb, po + ti * 3, none⟩) := hφ 9 (by decide)
    have k10 : vals 10 = .agg #[.int .i64 (P ti).lo, .int .i64 (P ti).hi, .slice (S ti).a (P ti).n (S ti).cap] := hφ 10 (by decide)
    have k11 : vals 11 = .agg #[.int .i64 (P ti).lo, .int .i64 (P ti).hi] := hφ 11 (by decide)
    have k12 : vals 12 = .bool q := hφ 12 (by decide)
    have k13 : vals 13 = .bool !q := hφ 13 (by decide)
    have k14 : vals 14 = .bool !q := hφ 14 (by decide)
    simp only [frOf, Act.put, List.setIfInBounds_toArray, List.set_cons_succ, List.set_cons_zero, k0, k1, k2, k3, k4, k5, k6, k7, k8, k9, k10, k11, k12, k13, k14]
    clear k0 k1 k2 k3 k4 k5 k6 k7 k8 k9 k10 k11 k12 k13 k14 hall hφ hS0
    have H := hS.1
    go_wp2_with fail
    go_ret
    exact ⟨ret_bool (by rw [← hq.out]), H.below⟩
set_option maxRecDepth 10000 in
set_option maxHeartbeats 8000000 in
theorem mayI_assert (pa : Option Addr) (m pc : Nat) (l h : Nat → Int) (ai bi : Nat) (r : Int) (w : World) (hai : ai < 4) (hbi : bi < 4) :
    Calls Try.prog 78 #[.agg #[.bool true, .int .i64 (l 0), .int .i64 (h 0), .int .i64 (l 1), .int .i64 (h 1), .int .i64 (l 2), .int .i64 (h 2), .int .i64 (l 3), .int .i64 (h 3), .int .i64 (l 4), .int .i64 (h 4)], .agg #[.slice pa m pc], .iface 169 (.agg #[.int .i64 (ai : Int), .int .i64 r, .int .i64 (bi : Int)])] w fun e w' => e = .returned (.bool ((itvNot r (l ai) (h ai) (l bi) (h bi)).ok)) ∧ Below w.heap.size w w' := by
  have H : HeldL w [(w.heap.size + 1 + 1, [Value.int .i64 (ai : Int), .int .i64 r, .int .i64 (bi : Int)]), (w.heap.size + 1, [Value.slice pa m pc]), (w.heap.size, [Value.bool true, .int .i64 (l 0), .int .i64 (h 0), .int .i64 (l 1), .int .i64 (h 1), .int .i64 (l 2), .int .i64 (h 2), .int .i64 (l 3), .int .i64 (h 3), .int .i64 (l 4), .int .i64 (h 4)])] (((w.alloc (.cells #[.bool true, .int .i64 (l 0), .int .i64 (h 0), .int .i64 (l 1), .int .i64 (h 1), .int .i64 (l 2), .int .i64 (h 2), .int .i64 (l 3), .int .i64 (h 3), .int .i64 (l 4), .int .i64 (h 4)] 129)).alloc (.cells #[.slice pa m pc] 35)).alloc (.cells #[.int .i64 (ai : Int), .int .i64 r, .int .i64 (bi : Int)] 169)) := by
    have e1 : w.heap.size + 1 = (w.alloc (.cells #[.bool true, .int .i64 (l 0), .int .i64 (h 0), .int .i64 (l 1), .int .i64 (h 1), .int .i64 (l 2), .int .i64 (h 2), .int .i64 (l 3), .int .i64 (h 3), .int .i64 (l 4), .int .i64 (h 4)] 129)).heap.size := by simp
    have e2 : w.heap.size + 1 + 1 = ((w.alloc (.cells #[.bool true, .int .i64 (l 0), .int .i64 (h 0), .int .i64 (l 1), .int .i64 (h 1), .int .i64 (l 2), .int .i64 (h 2), .int .i64 (l 3), .int .i64 (h 3), .int .i64 (l 4), .int .i64 (h 4)] 129)).alloc (.cells #[.slice pa m pc] 35)).heap.size := by simp
    rw [e2, e1]
    exact HeldL.newL (vs := [Value.int .i64 (ai : Int), .int .i64 r, .int .i64 (bi : Int)]) (HeldL.newL (vs := [Value.slice pa m pc]) (HeldL.newL (vs := [Value.bool true, .int .i64 (l 0), .int .i64 (h 0), .int .i64 (l 1), .int .i64 (h 1), .int .i64 (l 2), .int .i64 (h 2), .int .i64 (l 3), .int .i64 (h 3), .int .i64 (l 4), .int .i64 (h 4)]) (HeldL.nil w)))
  obtain ⟨Lb, hLb⟩ : ∃ L, L = [(w.heap.size + 1 + 1, [Value.int .i64 (ai : Int), .int .i64 r, .int .i64 (bi : Int)]), (w.heap.size + 1, [Value.slice pa m pc]), (w.heap.size, [Value.bool true, .int .i64 (l 0), .int .i64 (h 0), .int .i64 (l 1), .int .i64 (h 1), .int .i64 (l 2), .int .i64 (h 2), .int .i64 (l 3), .int .i64 (h 3), .int .i64 (l 4), .int .i64 (h 4)])] := ⟨_, rfl⟩
  have mA : (w.heap.size, [Value.bool true, .int .i64 (l 0), .int .i64 (h 0), .int .i64 (l 1), .int .i64 (h 1), .int .i64 (l 2), .int .i64 (h 2), .int .i64 (l 3), .int .i64 (h 3), .int .i64 (l 4), .int .i64 (h 4)]) ∈ Lb := by rw [hLb]; simp
  have mP : (w.heap.size + 1, [Value.slice pa m pc]) ∈ Lb := by rw [hLb]; simp
  have mV : (w.heap.size + 1 + 1, [Value.int .i64 (ai : Int), .int .i64 r, .int .i64 (bi : Int)]) ∈ Lb := by rw [hLb]; simp
  rw [← hLb] at H
  clear hLb
  have t1ai : ((ai : Int)).toNat = ai := by omega
  have t2ai : (0 : Int) ≤ (ai : Int) := by omega
  have t3ai : (ai : Int) < 5 := by omega
  have t1bi : ((bi : Int)).toNat = bi := by omega
  have t2bi : (0 : Int) ≤ (bi : Int) := by omega
  have t3bi : (bi : Int) < 5 := by omega
  obtain ⟨q, hq'⟩ : ∃ q, itvNot r (l ai) (h ai) (l bi) (h bi) = q := ⟨_, rfl⟩
  have hq : Hid (itvNot r (l ai) (h ai) (l bi) (h bi) = q) := hq'
  clear hq'
  obtain ⟨V, hV⟩ : ∃ V, V = (((w.alloc (.cells #[.bool true, .int .i64 (l 0), .int .i64 (h 0), .int .i64 (l 1), .int .i64 (h 1), .int .i64 (l 2), .int .i64 (h 2), .int .i64 (l 3), .int .i64 (h 3), .int .i64 (l 4), .int .i64 (h 4)] 129)).alloc (.cells #[.slice pa m pc] 35)).alloc (.cells #[.int .i64 (ai : Int), .int .i64 r, .int .i64 (bi : Int)] 169)) := ⟨_, rfl⟩
  rw [← hV] at H
  have hS0 : HX w V Lb V.drew := ⟨H.drew, (Below.refl _ V).drew⟩
  have hN1 : ∀ e ∈ Lb, e.1 < V.heap.size := fun e he => HeldL.size H he
  have hN2 : w.heap.size ≤ V.heap.size := H.below.size
  clear H
  have ta0 := fun w => tao (T := 169) (S := 160) (z := .agg #[.int .i64 0, .int .i64 0, .int .i64 0, .int .i64 0]) Try.underlying160 (by kernel_rfl) (by decide) (.agg #[.int .i64 (ai : Int), .int .i64 r, .int .i64 (bi : Int)]) 133 w
  have ta1 := fun w => tao (T := 169) (S := 162) (z := .agg #[.int .i64 0, .int .i64 0]) Try.underlying162 (by kernel_rfl) (by decide) (.agg #[.int .i64 (ai : Int), .int .i64 r, .int .i64 (bi : Int)]) 133 w
  have ta2 := fun w => tao (T := 169) (S := 164) (z := .agg #[.int .i64 0, .int .i64 0]) Try.underlying164 (by kernel_rfl) (by decide) (.agg #[.int .i64 (ai : Int), .int .i64 r, .int .i64 (bi : Int)]) 133 w
  have ta3 := fun w => tao (T := 169) (S := 166) (z := .agg #[.int .i64 0, .int .i64 0, .int .i64 0]) Try.underlying166 (by kernel_rfl) (by decide) (.agg #[.int .i64 (ai : Int), .int .i64 r, .int .i64 (bi : Int)]) 133 w
  have ta4 := fun w => tas Try.underlying169 (.agg #[.int .i64 (ai : Int), .int .i64 r, .int .i64 (bi : Int)]) 133 w
  go_enter Try.func78, Try.ntmps78
  go_wp2_with fail
  rw [← hV]
  clear hV
  refine region_inv4 [(0, 73), (1, 74), (2, 75), (3, 76), (4, 77), (5, 78), (6, 79), (7, 80), (8, 81), (9, 82), (10, 83), (11, 84), (12, 85), (13, 72), (14, 86), (15, 87), (16, 88), (17, 12), (18, 13), (21, 14)]
    (fun j v => match j with
      | 0 => Is (.pointer (some ⟨w.heap.size + 1 + 1, 1, none⟩)) v
      | 1 => Is (.int .i64 r) v
      | 2 => Is (.pointer (some ⟨w.heap.size + 1 + 1, 0, none⟩)) v
      | 3 => Is (.int .i64 ai) v
      | 4 => Is (.pointer (some ⟨w.heap.size, 1, none⟩)) v
      | 5 => Is (.pointer (some ⟨w.heap.size, 1 + ai * 2, none⟩)) v
      | 6 => Is (.agg #[.int .i64 (l ai), .int .i64 (h ai)]) v
      | 7 => Is (.pointer (some ⟨w.heap.size + 1 + 1, 2, none⟩)) v
      | 8 => Is (.int .i64 bi) v
      | 9 => Is (.pointer (some ⟨w.heap.size, 1, none⟩)) v
      | 10 => Is (.pointer (some ⟨w.heap.size, 1 + bi * 2, none⟩)) v
      | 11 => Is (.agg #[.int .i64 (l bi), .int .i64 (h bi)]) v
      | 12 => Is (.tuple #[.agg #[.int .i64 q.l0, .int .i64 q.h0], .agg #[.int .i64 q.l1, .int .i64 q.h1], .bool q.ok]) v
      | 13 => Is (.tuple #[.agg #[.int .i64 q.l0, .int .i64 q.h0], .agg #[.int .i64 q.l1, .int .i64 q.h1], .bool q.ok]) v
      | 14 => Is (.agg #[.int .i64 q.l0, .int .i64 q.h0]) v
      | 15 => Is (.agg #[.int .i64 q.l1, .int .i64 q.h1]) v
      | 16 => Is (.bool q.ok) v
      | 21 => Is (.bool q.ok) v
      | _ => True)
    (fun L vals W => HX w V Lb W ∧ Mk2 V.heap.size 17 L vals W ∧ Mk2 V.heap.size 18 L vals W)
    (by kernel_rfl) (by kernel_rfl) (by kernel_rfl) (by kernel_rfl) (by kernel_rfl) rfl (fun _ => ⟨hS0, Mk2.start (Nat.le_refl _), Mk2.start (Nat.le_refl _)⟩) ?_ ?_
  · intro i L vals W hi' hφ hSS hL hd
    have hi2 : i < 22 := hi'
    obtain ⟨hS, hB17, hB18⟩ := hSS
    clear hi'
    rcases (show i = 0 ∨ i = 1 ∨ i = 2 ∨ i = 3 ∨ i = 4 ∨ i = 5 ∨ i = 6 ∨ i = 7 ∨ i = 8 ∨ i = 9 ∨ i = 10 ∨ i = 11 ∨ i = 12 ∨ i = 13 ∨ i = 14 ∨ i = 15 ∨ i = 16 ∨ i = 17 ∨ i = 18 ∨ i = 19 ∨ i = 20 ∨ i = 21 by omega) with rfl | rfl | rfl | rfl | rfl | rfl | rfl | rfl | rfl | rfl | rfl | rfl | rfl | rfl | rfl | rfl | rfl | rfl | rfl | rfl | rfl | rfl
    · refine wpAt_of rfl rfl ?_
      simp only [frOf, Act.put]
      go_wp2_with fail
      first | exact ⟨trivial, rfl, hS, hB17.next (Below.refl _ _) (by decide), hB18.next (Below.refl _ _) (by decide)⟩ | exact ⟨rfl, hS, hB17.next (Below.refl _ _) (by decide), hB18.next (Below.refl _ _) (by decide)⟩ | exact ⟨trivial, trivial, rfl, hS, hB17.next (Below.refl _ _) (by decide), hB18.next (Below.refl _ _) (by decide)⟩
    · have k0 : vals 0 = .pointer (some ⟨w.heap.size + 1 + 1, 1, none⟩) := hφ 0 (hd 0 (by decide))
      have c1 := hS.cell mV (i := 1) rfl
      dsimp only at c1
      refine wpAt_of rfl rfl ?_
      simp only [frOf, Act.put]
      go_wp2_with fail
      first | exact ⟨trivial, rfl, hS, hB17.next (Below.refl _ _) (by decide), hB18.next (Below.refl _ _) (by decide)⟩ | exact ⟨rfl, hS, hB17.next (Below.refl _ _) (by decide), hB18.next (Below.refl _ _) (by decide)⟩ | exact ⟨trivial, trivial, rfl, hS, hB17.next (Below.refl _ _) (by decide), hB18.next (Below.refl _ _) (by decide)⟩
    · refine wpAt_of rfl rfl ?_
      simp only [frOf, Act.put]
      go_wp2_with fail
      first | exact ⟨trivial, rfl, hS, hB17.next (Below.refl _ _) (by decide), hB18.next (Below.refl _ _) (by decide)⟩ | exact ⟨rfl, hS, hB17.next (Below.refl _ _) (by decide), hB18.next (Below.refl _ _) (by decide)⟩ | exact ⟨trivial, trivial, rfl, hS, hB17.next (Below.refl _ _) (by decide), hB18.next (Below.refl _ _) (by decide)⟩
    · have k2 : vals 2 = .pointer (some ⟨w.heap.size + 1 + 1, 0, none⟩) := hφ 2 (hd 2 (by decide))
      have c0 := hS.cell mV (i := 0) rfl
      dsimp only at c0
      refine wpAt_of rfl rfl ?_
      simp only [frOf, Act.put]
      go_wp2_with fail
      first | exact ⟨trivial, rfl, hS, hB17.next (Below.refl _ _) (by decide), hB18.next (Below.refl _ _) (by decide)⟩ | exact ⟨rfl, hS, hB17.next (Below.refl _ _) (by decide), hB18.next (Below.refl _ _) (by decide)⟩ | exact ⟨trivial, trivial, rfl, hS, hB17.next (Below.refl _ _) (by decide), hB18.next (Below.refl _ _) (by decide)⟩
    · refine wpAt_of rfl rfl ?_
      simp only [frOf, Act.put]
      go_wp2_with fail
      first | exact ⟨trivial, rfl, hS, hB17.next (Below.refl _ _) (by decide), hB18.next (Below.refl _ _) (by decide)⟩ | exact ⟨rfl, hS, hB17.next (Below.refl _ _) (by decide), hB18.next (Below.refl _ _) (by decide)⟩ | exact ⟨trivial, trivial, rfl, hS, hB17.next (Below.refl _ _) (by decide), hB18.next (Below.refl _ _) (by decide)⟩
    · have k3 : vals 3 = .int .i64 ai := hφ 3 (hd 3 (by decide))
      have k4 : vals 4 = .pointer (some ⟨w.heap.size, 1, none⟩) := hφ 4 (hd 4 (by decide))
      refine wpAt_of rfl rfl ?_
      simp only [frOf, Act.put]
      go_wp2_with fail
      first | exact ⟨trivial, rfl, hS, hB17.next (Below.refl _ _) (by decide), hB18.next (Below.refl _ _) (by decide)⟩ | exact ⟨rfl, hS, hB17.next (Below.refl _ _) (by decide), hB18.next (Below.refl _ _) (by decide)⟩ | exact ⟨trivial, trivial, rfl, hS, hB17.next (Below.refl _ _) (by decide), hB18.next (Below.refl _ _) (by decide)⟩
    · have k5 : vals 5 = .pointer (some ⟨w.heap.size, 1 + ai * 2, none⟩) := hφ 5 (hd 5 (by decide))
      have d0 := hS.cell mA (i := 1 + ai * 2) (cellAt_lo true l h (by omega))
      have d1 := hS.cell mA (i := 1 + ai * 2 + 1) (cellAt_hi true l h (by omega))
      dsimp only at d0 d1
      refine wpAt_of rfl rfl ?_
      simp only [frOf, Act.put]
      go_wp2_with fail
      first | exact ⟨trivial, rfl, hS, hB17.next (Below.refl _ _) (by decide), hB18.next (Below.refl _ _) (by decide)⟩ | exact ⟨rfl, hS, hB17.next (Below.refl _ _) (by decide), hB18.next (Below.refl _ _) (by decide)⟩ | exact ⟨trivial, trivial, rfl, hS, hB17.next (Below.refl _ _) (by decide), hB18.next (Below.refl _ _) (by decide)⟩
    · refine wpAt_of rfl rfl ?_
      simp only [frOf, Act.put]
      go_wp2_with fail
      first | exact ⟨trivial, rfl, hS, hB17.next (Below.refl _ _) (by decide), hB18.next (Below.refl _ _) (by decide)⟩ | exact ⟨rfl, hS, hB17.next (Below.refl _ _) (by decide), hB18.next (Below.refl _ _) (by decide)⟩ | exact ⟨trivial, trivial, rfl, hS, hB17.next (Below.refl _ _) (by decide), hB18.next (Below.refl _ _) (by decide)⟩
    · have k7 : vals 7 = .pointer (some ⟨w.heap.size + 1 + 1, 2, none⟩) := hφ 7 (hd 7 (by decide))
      have c2 := hS.cell mV (i := 2) rfl
      dsimp only at c2
      refine wpAt_of rfl rfl ?_
      simp only [frOf, Act.put]
      go_wp2_with fail
      first | exact ⟨trivial, rfl, hS, hB17.next (Below.refl _ _) (by decide), hB18.next (Below.refl _ _) (by decide)⟩ | exact ⟨rfl, hS, hB17.next (Below.refl _ _) (by decide), hB18.next (Below.refl _ _) (by decide)⟩ | exact ⟨trivial, trivial, rfl, hS, hB17.next (Below.refl _ _) (by decide), hB18.next (Below.refl _ _) (by decide)⟩
    · refine wpAt_of rfl rfl ?_
      simp only [frOf, Act.put]
      go_wp2_with fail
      first | exact ⟨trivial, rfl, hS, hB17.next (Below.refl _ _) (by decide), hB18.next (Below.refl _ _) (by decide)⟩ | exact ⟨rfl, hS, hB17.next (Below.refl _ _) (by decide), hB18.next (Below.refl _ _) (by decide)⟩ | exact ⟨trivial, trivial, rfl, hS, hB17.next (Below.refl _ _) (by decide), hB18.next (Below.refl _ _) (by decide)⟩
    · have k8 : vals 8 = .int .i64 bi := hφ 8 (hd 8 (by decide))
      have k9 : vals 9 = .pointer (some ⟨w.heap.size, 1, none⟩) := hφ 9 (hd 9 (by decide))
      refine wpAt_of rfl rfl ?_
      simp only [frOf, Act.put]
      go_wp2_with fail
      first | exact ⟨trivial, rfl, hS, hB17.next (Below.refl _ _) (by decide), hB18.next (Below.refl _ _) (by decide)⟩ | exact ⟨rfl, hS, hB17.next (Below.refl _ _) (by decide), hB18.next (Below.refl _ _) (by decide)⟩ | exact ⟨trivial, trivial, rfl, hS, hB17.next (Below.refl _ _) (by decide), hB18.next (Below.refl _ _) (by decide)⟩
    · have k10 : vals 10 = .pointer (some ⟨w.heap.size, 1 + bi * 2, none⟩) := hφ 10 (hd 10 (by decide))
      have d0 := hS.cell mA (i := 1 + bi * 2) (cellAt_lo true l h (by omega))
      have d1 := hS.cell mA (i := 1 + bi * 2 + 1) (cellAt_hi true l h (by omega))
      dsimp only at d0 d1
      refine wpAt_of rfl rfl ?_
      simp only [frOf, Act.put]
      go_wp2_with fail
      first | exact ⟨trivial, rfl, hS, hB17.next (Below.refl _ _) (by decide), hB18.next (Below.refl _ _) (by decide)⟩ | exact ⟨rfl, hS, hB17.next (Below.refl _ _) (by decide), hB18.next (Below.refl _ _) (by decide)⟩ | exact ⟨trivial, trivial, rfl, hS, hB17.next (Below.refl _ _) (by decide), hB18.next (Below.refl _ _) (by decide)⟩
    · have k1 : vals 1 = .int .i64 r := hφ 1 (hd 1 (by decide))
      have k6 : vals 6 = .agg #[.int .i64 (l ai), .int .i64 (h ai)] := hφ 6 (hd 6 (by decide))
      have k11 : vals 11 = .agg #[.int .i64 (l bi), .int .i64 (h bi)] := hφ 11 (hd 11 (by decide))
      refine wpAt_of rfl rfl ?_
      simp only [frOf, Act.put]
      go_wp2_with fail
      refine (itvNotI _ _ _ _ _ _).mono ?_
      rintro e W' ⟨rfl, hb⟩
      rw [hq.out]
      go_wp2_with fail
      first | exact ⟨trivial, rfl, HX.next hb hS, hB17.next hb (by decide), hB18.next hb (by decide)⟩ | exact ⟨rfl, HX.next hb hS, hB17.next hb (by decide), hB18.next hb (by decide)⟩ | exact ⟨trivial, trivial, rfl, HX.next hb hS, hB17.next hb (by decide), hB18.next hb (by decide)⟩
    · have k12 : vals 12 = .tuple #[.agg #[.int .i64 q.l0, .int .i64 q.h0], .agg #[.int .i64 q.l1, .int .i64 q.h1], .bool q.ok] := hφ 12 (hd 12 (by decide))
      refine wpAt_of rfl rfl ?_
      simp only [frOf, Act.put]
      go_wp2_with fail
      first | exact ⟨trivial, rfl, hS, hB17.next (Below.refl _ _) (by decide), hB18.next (Below.refl _ _) (by decide)⟩ | exact ⟨rfl, hS, hB17.next (Below.refl _ _) (by decide), hB18.next (Below.refl _ _) (by decide)⟩ | exact ⟨trivial, trivial, rfl, hS, hB17.next (Below.refl _ _) (by decide), hB18.next (Below.refl _ _) (by decide)⟩
    · have k13 : vals 13 = .tuple #[.agg #[.int .i64 q.l0, .int .i64 q.h0], .agg #[.int .i64 q.l1, .int .i64 q.h1], .bool q.ok] := hφ 13 (hd 13 (by decide))
      refine wpAt_of rfl rfl ?_
      simp only [frOf, Act.put]
      go_wp2_with fail
      first | exact ⟨trivial, rfl, hS, hB17.next (Below.refl _ _) (by decide), hB18.next (Below.refl _ _) (by decide)⟩ | exact ⟨rfl, hS, hB17.next (Below.refl _ _) (by decide), hB18.next (Below.refl _ _) (by decide)⟩ | exact ⟨trivial, trivial, rfl, hS, hB17.next (Below.refl _ _) (by decide), hB18.next (Below.refl _ _) (by decide)⟩
    · have k13 : vals 13 = .tuple #[.agg #[.int .i64 q.l0, .int .i64 q.h0], .agg #[.int .i64 q.l1, .int .i64 q.h1], .bool q.ok] := hφ 13 (hd 13 (by decide))
      refine wpAt_of rfl rfl ?_
      simp only [frOf, Act.put]
      go_wp2_with fail
      first | exact ⟨trivial, rfl, hS, hB17.next (Below.refl _ _) (by decide), hB18.next (Below.refl _ _) (by decide)⟩ | exact ⟨rfl, hS, hB17.next (Below.refl _ _) (by decide), hB18.next (Below.refl _ _) (by decide)⟩ | exact ⟨trivial, trivial, rfl, hS, hB17.next (Below.refl _ _) (by decide), hB18.next (Below.refl _ _) (by decide)⟩
    · have k13 : vals 13 = .tuple #[.agg #[.int .i64 q.l0, .int .i64 q.h0], .agg #[.int .i64 q.l1, .int .i64 q.h1], .bool q.ok] := hφ 13 (hd 13 (by decide))
      refine wpAt_of rfl rfl ?_
      simp only [frOf, Act.put]
      go_wp2_with fail
      first | exact ⟨trivial, rfl, hS, hB17.next (Below.refl _ _) (by decide), hB18.next (Below.refl _ _) (by decide)⟩ | exact ⟨rfl, hS, hB17.next (Below.refl _ _) (by decide), hB18.next (Below.refl _ _) (by decide)⟩ | exact ⟨trivial, trivial, rfl, hS, hB17.next (Below.refl _ _) (by decide), hB18.next (Below.refl _ _) (by decide)⟩
    · refine wpAt_of rfl rfl ?_
      simp only [frOf, Act.put]
      go_wp2_with fail
      first | exact ⟨trivial, HX.alloc _ hS, hB17.made hL, hB18.next ((Below.refl _ _).alloc (Nat.le_refl _) _) (by decide)⟩ | exact ⟨HX.alloc _ hS, hB17.made hL, hB18.next ((Below.refl _ _).alloc (Nat.le_refl _) _) (by decide)⟩ | exact ⟨trivial, trivial, HX.alloc _ hS, hB17.made hL, hB18.next ((Below.refl _ _).alloc (Nat.le_refl _) _) (by decide)⟩
    · refine wpAt_of rfl rfl ?_
      simp only [frOf, Act.put]
      go_wp2_with fail
      first | exact ⟨trivial, HX.alloc _ hS, hB17.next ((Below.refl _ _).alloc (Nat.le_refl _) _) (by decide), hB18.made hL⟩ | exact ⟨HX.alloc _ hS, hB17.next ((Below.refl _ _).alloc (Nat.le_refl _) _) (by decide), hB18.made hL⟩ | exact ⟨trivial, trivial, HX.alloc _ hS, hB17.next ((Below.refl _ _).alloc (Nat.le_refl _) _) (by decide), hB18.made hL⟩
    · have k14 : vals 14 = .agg #[.int .i64 q.l0, .int .i64 q.h0] := hφ 14 (hd 14 (by decide))
      obtain ⟨b, kb, hb1, hbf, c0, c1, _⟩ := hB17.2 (hd 17 (by decide))
      obtain ⟨u0, cc0⟩ := Option.isSome_iff_exists.1 c0
      obtain ⟨u1, cc1⟩ := Option.isSome_iff_exists.1 c1
      refine wpAt_none rfl rfl ?_
      simp only [frOf, Act.put]
      go_wp2_with fail
      first | exact ⟨trivial, HX.setAll hN1 hN2 (Nat.le_refl _) hb1 [Value.int .i64 q.l0, .int .i64 q.h0] 0 hS, hB17.store (by decide), hB18.store (by decide)⟩ | exact ⟨HX.setAll hN1 hN2 (Nat.le_refl _) hb1 [Value.int .i64 q.l0, .int .i64 q.h0] 0 hS, hB17.store (by decide), hB18.store (by decide)⟩ | exact ⟨trivial, trivial, HX.setAll hN1 hN2 (Nat.le_refl _) hb1 [Value.int .i64 q.l0, .int .i64 q.h0] 0 hS, hB17.store (by decide), hB18.store (by decide)⟩
    · have k15 : vals 15 = .agg #[.int .i64 q.l1, .int .i64 q.h1] := hφ 15 (hd 15 (by decide))
      obtain ⟨b, kb, hb1, hbf, c0, c1, _⟩ := hB18.2 (hd 18 (by decide))
      obtain ⟨u0, cc0⟩ := Option.isSome_iff_exists.1 c0
      obtain ⟨u1, cc1⟩ := Option.isSome_iff_exists.1 c1
      refine wpAt_none rfl rfl ?_
      simp only [frOf, Act.put]
      go_wp2_with fail
      first | exact ⟨trivial, HX.setAll hN1 hN2 (Nat.le_refl _) hb1 [Value.int .i64 q.l1, .int .i64 q.h1] 0 hS, hB17.store (by decide), hB18.store (by decide)⟩ | exact ⟨HX.setAll hN1 hN2 (Nat.le_refl _) hb1 [Value.int .i64 q.l1, .int .i64 q.h1] 0 hS, hB17.store (by decide), hB18.store (by decide)⟩ | exact ⟨trivial, trivial, HX.setAll hN1 hN2 (Nat.le_refl _) hb1 [Value.int .i64 q.l1, .int .i64 q.h1] 0 hS, hB17.store (by decide), hB18.store (by decide)⟩
    · have k16 : vals 16 = .bool q.ok := hφ 16 (hd 16 (by decide))
      refine wpAt_of rfl rfl ?_
      simp only [frOf, Act.put]
      go_wp2_with fail
      first | exact ⟨trivial, rfl, hS, hB17.next (Below.refl _ _) (by decide), hB18.next (Below.refl _ _) (by decide)⟩ | exact ⟨rfl, hS, hB17.next (Below.refl _ _) (by decide), hB18.next (Below.refl _ _) (by decide)⟩ | exact ⟨trivial, trivial, rfl, hS, hB17.next (Below.refl _ _) (by decide), hB18.next (Below.refl _ _) (by decide)⟩
  · intro L vals W hall hφ hSS
    obtain ⟨hS, hB17, hB18⟩ := hSS
    have k0 : vals 0 = .pointer (some ⟨w.heap.size + 1 + 1, 1, none⟩) := hφ 0 (by decide)
    have k1 : vals 1 = .int .i64 r := hφ 1 (by decide)
    have k2 : vals 2 = .pointer (some ⟨w.heap.size + 1 + 1, 0, none⟩) := hφ 2 (by decide)
    have k3 : vals 3 = .int .i64 ai := hφ 3 (by decide)
    have k4 : vals 4 = .pointer (some ⟨w.heap.size, 1, none⟩) := hφ 4 (by decide)
    have k5 : vals 5 = .pointer (some ⟨w.heap.size, 1 + ai * 2, none⟩) := hφ 5 (by decide)
    have k6 : vals 6 = .agg #[.int .i64 (l ai), .int .i64 (h ai)] := hφ 6 (by decide)
    have k7 : vals 7 = .pointer (some ⟨w.heap.size + 1 + 1, 2, none⟩) := hφ 7 (by decide)
    have k8 : vals 8 = .int .i64 bi := hφ 8 (by decide)
    have k9 : vals 9 = .pointer (some ⟨w.heap.size, 1, none⟩) := hφ 9 (by decide)
    have k10 : vals 10 = .pointer (some ⟨w.heap.size, 1 + bi * 2, none⟩) := hφ 10 (by decide)
    have k11 : vals 11 = .agg #[.int .i64 (l bi), .int .i64 (h bi)] := hφ 11 (by decide)
    have k12 : vals 12 = .tuple #[.agg #[.int .i64 q.l0, .int .i64 q.h0], .agg #[.int .i64 q.l1, .int .i64 q.h1], .bool q.ok] := hφ 12 (by decide)
    have k13 : vals 13 = .tuple #[.agg #[.int .i64 q.l0, .int .i64 q.h0], .agg #[.int .i64 q.l1, .int .i64 q.h1], .bool q.ok] := hφ 13 (by decide)
    have k14 : vals 14 = .agg #[.int .i64 q.l0, .int .i64 q.h0] := hφ 14 (by decide)
    have k15 : vals 15 = .agg #[.int .i64 q.l1, .int .i64 q.h1] := hφ 15 (by decide)
    have k16 : vals 16 = .bool q.ok := hφ 16 (by decide)
    have k21 : vals 21 = .bool q.ok := hφ 21 (by decide)
    simp only [frOf, Act.put, List.setIfInBounds_toArray, List.set_cons_succ, List.set_cons_zero, k0, k1, k2, k3, k4, k5, k6, k7, k8, k9, k10, k11, k12, k13, k14, k15, k16, k21]
    clear k0 k1 k2 k3 k4 k5 k6 k7 k8 k9 k10 k11 k12 k13 k14 k15 k16 k21 hφ
    have H := hS.1
    clear hall
    go_wp2_with fail
    go_ret
    exact ⟨ret_bool (by rw [← hq.out]), H.below⟩
set_option maxRecDepth 10000 in
set_option maxHeartbeats 8000000 in
theorem mayI_any (pa : Option Addr) (m pc : Nat) (l h : Nat → Int) (d l0 h0 : Int) (w : World)  :
    Calls Try.prog 78 #[.agg #[.bool true, .int .i64 (l 0), .int .i64 (h 0), .int .i64 (l 1), .int .i64 (h 1), .int .i64 (l 2), .int .i64 (h 2), .int .i64 (l 3), .int .i64 (h 3), .int .i64 (l 4), .int .i64 (h 4)], .agg #[.slice pa m pc], .iface 171 (.agg #[.int .i64 d, .int .i64 l0, .int .i64 h0])] w fun e w' => e = .returned (.bool (false)) ∧ Below w.heap.size w w' := by
  have H : HeldL w [(w.heap.size + 1, [Value.slice pa m pc]), (w.heap.size, [Value.bool true, .int .i64 (l 0), .int .i64 (h 0), .int .i64 (l 1), .int .i64 (h 1), .int .i64 (l 2), .int .i64 (h 2), .int .i64 (l 3), .int .i64 (h 3), .int .i64 (l 4), .int .i64 (h 4)])] ((w.alloc (.cells #[.bool true, .int .i64 (l 0), .int .i64 (h 0), .int .i64 (l 1), .int .i64 (h 1), .int .i64 (l 2), .int .i64 (h 2), .int .i64 (l 3), .int .i64 (h 3), .int .i64 (l 4), .int .i64 (h 4)] 129)).alloc (.cells #[.slice pa m pc] 35)) := by
    have e1 : w.heap.size + 1 = (w.alloc (.cells #[.bool true, .int .i64 (l 0), .int .i64 (h 0), .int .i64 (l 1), .int .i64 (h 1), .int .i64 (l 2), .int .i64 (h 2), .int .i64 (l 3), .int .i64 (h 3), .int .i64 (l 4), .int .i64 (h 4)] 129)).heap.size := by simp
    rw [e1]
    exact HeldL.newL (vs := [Value.slice pa m pc]) (HeldL.newL (vs := [Value.bool true, .int .i64 (l 0), .int .i64 (h 0), .int .i64 (l 1), .int .i64 (h 1), .int .i64 (l 2), .int .i64 (h 2), .int .i64 (l 3), .int .i64 (h 3), .int .i64 (l 4), .int .i64 (h 4)]) (HeldL.nil w))
  obtain ⟨Lb, hLb⟩ : ∃ L, L = [(w.heap.size + 1, [Value.slice pa m pc]), (w.heap.size, [Value.bool true, .int .i64 (l 0), .int .i64 (h 0), .int .i64 (l 1), .int .i64 (h 1), .int .i64 (l 2), .int .i64 (h 2), .int .i64 (l 3), .int .i64 (h 3), .int .i64 (l 4), .int .i64 (h 4)])] := ⟨_, rfl⟩
  have mA : (w.heap.size, [Value.bool true, .int .i64 (l 0), .int .i64 (h 0), .int .i64 (l 1), .int .i64 (h 1), .int .i64 (l 2), .int .i64 (h 2), .int .i64 (l 3), .int .i64 (h 3), .int .i64 (l 4), .int .i64 (h 4)]) ∈ Lb := by rw [hLb]; simp
  have mP : (w.heap.size + 1, [Value.slice pa m pc]) ∈ Lb := by rw [hLb]; simp
  rw [← hLb] at H
  clear hLb
  have ta0 := fun w => tao (T := 171) (S := 160) (z := .agg #[.int .i64 0, .int .i64 0, .int .i64 0, .int .i64 0]) Try.underlying160 (by kernel_rfl) (by decide) (.agg #[.int .i64 d, .int .i64 l0, .int .i64 h0]) 133 w
  have ta1 := fun w => tao (T := 171) (S := 162) (z := .agg #[.int .i64 0, .int .i64 0]) Try.underlying162 (by kernel_rfl) (by decide) (.agg #[.int .i64 d, .int .i64 l0, .int .i64 h0]) 133 w
  have ta2 := fun w => tao (T := 171) (S := 164) (z := .agg #[.int .i64 0, .int .i64 0]) Try.underlying164 (by kernel_rfl) (by decide) (.agg #[.int .i64 d, .int .i64 l0, .int .i64 h0]) 133 w
  have ta3 := fun w => tao (T := 171) (S := 166) (z := .agg #[.int .i64 0, .int .i64 0, .int .i64 0]) Try.underlying166 (by kernel_rfl) (by decide) (.agg #[.int .i64 d, .int .i64 l0, .int .i64 h0]) 133 w
  have ta4 := fun w => tao (T := 171) (S := 169) (z := .agg #[.int .i64 0, .int .i64 0, .int .i64 0]) Try.underlying169 (by kernel_rfl) (by decide) (.agg #[.int .i64 d, .int .i64 l0, .int .i64 h0]) 133 w
  go_enter Try.func78, Try.ntmps78
  go_wp2_with fail
  go_ret
  exact ⟨ret_bool (by rfl), H.below⟩
set_option maxRecDepth 10000 in
set_option maxHeartbeats 8000000 in
theorem mayI_if (pa : Option Addr) (m pc : Nat) (l h : Nat → Int) (ai bi : Nat) (r t : Int) (w : World) (hai : ai < 4) (hbi : bi < 4) :
    Calls Try.prog 78 #[.agg #[.bool true, .int .i64 (l 0), .int .i64 (h 0), .int .i64 (l 1), .int .i64 (h 1), .int .i64 (l 2), .int .i64 (h 2), .int .i64 (l 3), .int .i64 (h 3), .int .i64 (l 4), .int .i64 (h 4)], .agg #[.slice pa m pc], .iface 173 (.agg #[.int .i64 (ai : Int), .int .i64 r, .int .i64 (bi : Int), .int .i64 t])] w fun e w' => e = .returned (.bool (false)) ∧ Below w.heap.size w w' := by
  have H : HeldL w [(w.heap.size + 1, [Value.slice pa m pc]), (w.heap.size, [Value.bool true, .int .i64 (l 0), .int .i64 (h 0), .int .i64 (l 1), .int .i64 (h 1), .int .i64 (l 2), .int .i64 (h 2), .int .i64 (l 3), .int .i64 (h 3), .int .i64 (l 4), .int .i64 (h 4)])] ((w.alloc (.cells #[.bool true, .int .i64 (l 0), .int .i64 (h 0), .int .i64 (l 1), .int .i64 (h 1), .int .i64 (l 2), .int .i64 (h 2), .int .i64 (l 3), .int .i64 (h 3), .int .i64 (l 4), .int .i64 (h 4)] 129)).alloc (.cells #[.slice pa m pc] 35)) := by
    have e1 : w.heap.size + 1 = (w.alloc (.cells #[.bool true, .int .i64 (l 0), .int .i64 (h 0), .int .i64 (l 1), .int .i64 (h 1), .int .i64 (l 2), .int .i64 (h 2), .int .i64 (l 3), .int .i64 (h 3), .int .i64 (l 4), .int .i64 (h 4)] 129)).heap.size := by simp
    rw [e1]
    exact HeldL.newL (vs := [Value.slice pa m pc]) (HeldL.newL (vs := [Value.bool true, .int .i64 (l 0), .int .i64 (h 0), .int .i64 (l 1), .int .i64 (h 1), .int .i64 (l 2), .int .i64 (h 2), .int .i64 (l 3), .int .i64 (h 3), .int .i64 (l 4), .int .i64 (h 4)]) (HeldL.nil w))
  obtain ⟨Lb, hLb⟩ : ∃ L, L = [(w.heap.size + 1, [Value.slice pa m pc]), (w.heap.size, [Value.bool true, .int .i64 (l 0), .int .i64 (h 0), .int .i64 (l 1), .int .i64 (h 1), .int .i64 (l 2), .int .i64 (h 2), .int .i64 (l 3), .int .i64 (h 3), .int .i64 (l 4), .int .i64 (h 4)])] := ⟨_, rfl⟩
  have mA : (w.heap.size, [Value.bool true, .int .i64 (l 0), .int .i64 (h 0), .int .i64 (l 1), .int .i64 (h 1), .int .i64 (l 2), .int .i64 (h 2), .int .i64 (l 3), .int .i64 (h 3), .int .i64 (l 4), .int .i64 (h 4)]) ∈ Lb := by rw [hLb]; simp
  have mP : (w.heap.size + 1, [Value.slice pa m pc]) ∈ Lb := by rw [hLb]; simp
  rw [← hLb] at H
  clear hLb
  have ta0 := fun w => tao (T := 173) (S := 160) (z := .agg #[.int .i64 0, .int .i64 0, .int .i64 0, .int .i64 0]) Try.underlying160 (by kernel_rfl) (by decide) (.agg #[.int .i64 (ai : Int), .int .i64 r, .int .i64 (bi : Int), .int .i64 t]) 133 w
  have ta1 := fun w => tao (T := 173) (S := 162) (z := .agg #[.int .i64 0, .int .i64 0]) Try.underlying162 (by kernel_rfl) (by decide) (.agg #[.int .i64 (ai : Int), .int .i64 r, .int .i64 (bi : Int), .int .i64 t]) 133 w
  have ta2 := fun w => tao (T := 173) (S := 164) (z := .agg #[.int .i64 0, .int .i64 0]) Try.underlying164 (by kernel_rfl) (by decide) (.agg #[.int .i64 (ai : Int), .int .i64 r, .int .i64 (bi : Int), .int .i64 t]) 133 w
  have ta3 := fun w => tao (T := 173) (S := 166) (z := .agg #[.int .i64 0, .int .i64 0, .int .i64 0]) Try.underlying166 (by kernel_rfl) (by decide) (.agg #[.int .i64 (ai : Int), .int .i64 r, .int .i64 (bi : Int), .int .i64 t]) 133 w
  have ta4 := fun w => tao (T := 173) (S := 169) (z := .agg #[.int .i64 0, .int .i64 0, .int .i64 0]) Try.underlying169 (by kernel_rfl) (by decide) (.agg #[.int .i64 (ai : Int), .int .i64 r, .int .i64 (bi : Int), .int .i64 t]) 133 w
  go_enter Try.func78, Try.ntmps78
  go_wp2_with fail
  go_ret
  exact ⟨ret_bool (by rfl), H.below⟩
set_option maxRecDepth 10000 in
set_option maxHeartbeats 8000000 in
theorem mayI_jump (pa : Option Addr) (m pc : Nat) (l h : Nat → Int) (t : Int) (w : World)  :
    Calls Try.prog 78 #[.agg #[.bool true, .int .i64 (l 0), .int .i64 (h 0), .int .i64 (l 1), .int .i64 (h 1), .int .i64 (l 2), .int .i64 (h 2), .int .i64 (l 3), .int .i64 (h 3), .int .i64 (l 4), .int .i64 (h 4)], .agg #[.slice pa m pc], .iface 175 (.agg #[.int .i64 t])] w fun e w' => e = .returned (.bool (false)) ∧ Below w.heap.size w w' := by
  have H : HeldL w [(w.heap.size + 1, [Value.slice pa m pc]), (w.heap.size, [Value.bool true, .int .i64 (l 0), .int .i64 (h 0), .int .i64 (l 1), .int .i64 (h 1), .int .i64 (l 2), .int .i64 (h 2), .int .i64 (l 3), .int .i64 (h 3), .int .i64 (l 4), .int .i64 (h 4)])] ((w.alloc (.cells #[.bool true, .int .i64 (l 0), .int .i64 (h 0), .int .i64 (l 1), .int .i64 (h 1), .int .i64 (l 2), .int .i64 (h 2), .int .i64 (l 3), .int .i64 (h 3), .int .i64 (l 4), .int .i64 (h 4)] 129)).alloc (.cells #[.slice pa m pc] 35)) := by
    have e1 : w.heap.size + 1 = (w.alloc (.cells #[.bool true, .int .i64 (l 0), .int .i64 (h 0), .int .i64 (l 1), .int .i64 (h 1), .int .i64 (l 2), .int .i64 (h 2), .int .i64 (l 3), .int .i64 (h 3), .int .i64 (l 4), .int .i64 (h 4)] 129)).heap.size := by simp
    rw [e1]
    exact HeldL.newL (vs := [Value.slice pa m pc]) (HeldL.newL (vs := [Value.bool true, .int .i64 (l 0), .int .i64 (h 0), .int .i64 (l 1), .int .i64 (h 1), .int .i64 (l 2), .int .i64 (h 2), .int .i64 (l 3), .int .i64 (h 3), .int .i64 (l 4), .int .i64 (h 4)]) (HeldL.nil w))
  obtain ⟨Lb, hLb⟩ : ∃ L, L = [(w.heap.size + 1, [Value.slice pa m pc]), (w.heap.size, [Value.bool true, .int .i64 (l 0), .int .i64 (h 0), .int .i64 (l 1), .int .i64 (h 1), .int .i64 (l 2), .int .i64 (h 2), .int .i64 (l 3), .int .i64 (h 3), .int .i64 (l 4), .int .i64 (h 4)])] := ⟨_, rfl⟩
  have mA : (w.heap.size, [Value.bool true, .int .i64 (l 0), .int .i64 (h 0), .int .i64 (l 1), .int .i64 (h 1), .int .i64 (l 2), .int .i64 (h 2), .int .i64 (l 3), .int .i64 (h 3), .int .i64 (l 4), .int .i64 (h 4)]) ∈ Lb := by rw [hLb]; simp
  have mP : (w.heap.size + 1, [Value.slice pa m pc]) ∈ Lb := by rw [hLb]; simp
  rw [← hLb] at H
  clear hLb
  have ta0 := fun w => tao (T := 175) (S := 160) (z := .agg #[.int .i64 0, .int .i64 0, .int .i64 0, .int .i64 0]) Try.underlying160 (by kernel_rfl) (by decide) (.agg #[.int .i64 t]) 133 w
  have ta1 := fun w => tao (T := 175) (S := 162) (z := .agg #[.int .i64 0, .int .i64 0]) Try.underlying162 (by kernel_rfl) (by decide) (.agg #[.int .i64 t]) 133 w
  have ta2 := fun w => tao (T := 175) (S := 164) (z := .agg #[.int .i64 0, .int .i64 0]) Try.underlying164 (by kernel_rfl) (by decide) (.agg #[.int .i64 t]) 133 w
  have ta3 := fun w => tao (T := 175) (S := 166) (z := .agg #[.int .i64 0, .int .i64 0, .int .i64 0]) Try.underlying166 (by kernel_rfl) (by decide) (.agg #[.int .i64 t]) 133 w
  have ta4 := fun w => tao (T := 175) (S := 169) (z := .agg #[.int .i64 0, .int .i64 0, .int .i64 0]) Try.underlying169 (by kernel_rfl) (by decide) (.agg #[.int .i64 t]) 133 w
  go_enter Try.func78, Try.ntmps78
  go_wp2_with fail
  go_ret
  exact ⟨ret_bool (by rfl), H.below⟩
set_option maxRecDepth 10000 in
set_option maxHeartbeats 8000000 in
theorem mayI_ret (pa : Option Addr) (m pc : Nat) (l h : Nat → Int) (ai : Nat) (w : World) (hai : ai < 4) :
    Calls Try.prog 78 #[.agg #[.bool true, .int .i64 (l 0), .int .i64 (h 0), .int .i64 (l 1), .int .i64 (h 1), .int .i64 (l 2), .int .i64 (h 2), .int .i64 (l 3), .int .i64 (h 3), .int .i64 (l 4), .int .i64 (h 4)], .agg #[.slice pa m pc], .iface 177 (.agg #[.int .i64 (ai : Int)])] w fun e w' => e = .returned (.bool (false)) ∧ Below w.heap.size w w' := by
  have H : HeldL w [(w.heap.size + 1, [Value.slice pa m pc]), (w.heap.size, [Value.bool true, .int .i64 (l 0), .int .i64 (h 0), .int .i64 (l 1), .int .i64 (h 1), .int .i64 (l 2), .int .i64 (h 2), .int .i64 (l 3), .int .i64 (h 3), .int .i64 (l 4), .int .i64 (h 4)])] ((w.alloc (.cells #[.bool true, .int .i64 (l 0), .int .i64 (h 0), .int .i64 (l 1), .int .i64 (h 1), .int .i64 (l 2), .int .i64 (h 2), .int .i64 (l 3), .int .i64 (h 3), .int .i64 (l 4), .int .i64 (h 4)] 129)).alloc (.cells #[.slice pa m pc] 35)) := by
    have e1 : w.heap.size + 1 = (w.alloc (.cells #[.bool true, .int .i64 (l 0), .int .i64 (h 0), .int .i64 (l 1), .int .i64 (h 1), .int .i64 (l 2), .int .i64 (h 2), .int .i64 (l 3), .int .i64 (h 3), .int .i64 (l 4), .int .i64 (h 4)] 129)).heap.size := by simp
    rw [e1]
    exact HeldL.newL (vs := [Value.slice pa m pc]) (HeldL.newL (vs := [Value.bool true, .int .i64 (l 0), .int .i64 (h 0), .int .i64 (l 1), .int .i64 (h 1), .int .i64 (l 2), .int .i64 (h 2), .int .i64 (l 3), .int .i64 (h 3), .int .i64 (l 4), .int .i64 (h 4)]) (HeldL.nil w))
  obtain ⟨Lb, hLb⟩ : ∃ L, L = [(w.heap.size + 1, [Value.slice pa m pc]), (w.heap.size, [Value.bool true, .int .i64 (l 0), .int .i64 (h 0), .int .i64 (l 1), .int .i64 (h 1), .int .i64 (l 2), .int .i64 (h 2), .int .i64 (l 3), .int .i64 (h 3), .int .i64 (l 4), .int .i64 (h 4)])] := ⟨_, rfl⟩
  have mA : (w.heap.size, [Value.bool true, .int .i64 (l 0), .int .i64 (h 0), .int .i64 (l 1), .int .i64 (h 1), .int .i64 (l 2), .int .i64 (h 2), .int .i64 (l 3), .int .i64 (h 3), .int .i64 (l 4), .int .i64 (h 4)]) ∈ Lb := by rw [hLb]; simp
  have mP : (w.heap.size + 1, [Value.slice pa m pc]) ∈ Lb := by rw [hLb]; simp
  rw [← hLb] at H
  clear hLb
  have ta0 := fun w => tao (T := 177) (S := 160) (z := .agg #[.int .i64 0, .int .i64 0, .int .i64 0, .int .i64 0]) Try.underlying160 (by kernel_rfl) (by decide) (.agg #[.int .i64 (ai : Int)]) 133 w
  have ta1 := fun w => tao (T := 177) (S := 162) (z := .agg #[.int .i64 0, .int .i64 0]) Try.underlying162 (by kernel_rfl) (by decide) (.agg #[.int .i64 (ai : Int)]) 133 w
  have ta2 := fun w => tao (T := 177) (S := 164) (z := .agg #[.int .i64 0, .int .i64 0]) Try.underlying164 (by kernel_rfl) (by decide) (.agg #[.int .i64 (ai : Int)]) 133 w
  have ta3 := fun w => tao (T := 177) (S := 166) (z := .agg #[.int .i64 0, .int .i64 0, .int .i64 0]) Try.underlying166 (by kernel_rfl) (by decide) (.agg #[.int .i64 (ai : Int)]) 133 w
  have ta4 := fun w => tao (T := 177) (S := 169) (z := .agg #[.int .i64 0, .int .i64 0, .int .i64 0]) Try.underlying169 (by kernel_rfl) (by decide) (.agg #[.int .i64 (ai : Int)]) 133 w
  go_enter Try.func78, Try.ntmps78
  go_wp2_with fail
  go_ret
  exact ⟨ret_bool (by rfl), H.below⟩
end Go.Proofs.Ytdpkbbbfnmneiaa
