/- What is known of a drawn state as a value: its list lies in memory that the drawing made. · A state within one that is ok: l21Within. · Two drawn states: DrawAbsIn. -/
import Derived.Test.YtiehokibfdaleaaG8
import Derived.Test.YtiehokibfdaleaaG4
import Derived.Test.YtiehokibfdaleaaG5
import Derived.Test.YtiehokibfdaleaaG9
namespace Go.Proofs.Ytiehokibfdaleaa
open Go.ChangeShapes Go.WideShapes Go.ChangeAt Go.RowKit
set_option linter.unusedVariables false

/-- v is a drawn state, its list at or behind N. -/
def StD (N : Nat) (v : Value) (W : World) : Prop := ∃ (on : Bool) (aa : Option Addr) (g n cap : Nat) (zs : Nat → Int) (x y : Int), v = .agg #[.bool on, .slice aa n cap, .int .i64 x, .int .i64 y] ∧ n ≤ 4 ∧ (0 < n → aa = some ⟨g, 0, none⟩ ∧ N ≤ g ∧ g < W.heap.size) ∧ ∀ j, j < 2 * n → W.cell? ⟨g, j, none⟩ = some (.int .i64 (zs j))
/-- The world turned in three blocks alone. -/
def K3 (R T U : Nat) (_ : Nat) (W W' : World) : Prop := W.heap.size ≤ W'.heap.size ∧ ∀ b, b < W.heap.size → b ≠ R → b ≠ T → b ≠ U → W'.heap[b]? = W.heap[b]?
theorem K3.refl (R T U i : Nat) (W : World) : K3 R T U i W W := ⟨Nat.le_refl _, fun _ _ _ _ _ => rfl⟩
theorem K3.of {R T U i : Nat} {W W' : World} (g : W.grownBy W' (some R)) : K3 R T U i W W' := ⟨g.size, fun b hb h1 _ _ => g.block b hb (fun e => h1 (by injection e))⟩
theorem StD.next {N R T U i : Nat} {v : Value} {W W' : World} (h : StD N v W) (k : K3 R T U i W W') (hR : R < N) (hT : T < N) (hU : U < N) : StD N v W' := by
  obtain ⟨on, aa, g, n, cap, zs, x, y, h1, h2, h3, h4⟩ := h
  refine ⟨on, aa, g, n, cap, zs, x, y, h1, h2, fun hn => ⟨(h3 hn).1, (h3 hn).2.1, Nat.lt_of_lt_of_le (h3 hn).2.2 k.1⟩, fun j hj => ?_⟩
  have hn := h3 (by omega)
  exact (World.cell?_of_block (a := ⟨g, j, none⟩) (k.2 g hn.2.2 (by omega) (by omega) (by omega))).trans (h4 j hj)
theorem K3.set8 {R T U i : Nat} {W : World} {v0 v1 v2 v3 v4 v5 v6 v7 : Value} : K3 R T U i W ((((((((W.setCell ⟨T, 0, none⟩ v0).setCell ⟨T, 1, none⟩ v1).setCell ⟨T, 2, none⟩ v2).setCell ⟨T, 3, none⟩ v3).setCell ⟨T, 4, none⟩ v4).setCell ⟨T, 5, none⟩ v5).setCell ⟨T, 6, none⟩ v6).setCell ⟨T, 7, none⟩ v7) :=
  ⟨by simp [World.setCell], fun b _ _ h2 _ => by
    rw [Below.heap_setCell _ _ _ _ h2, Below.heap_setCell _ _ _ _ h2, Below.heap_setCell _ _ _ _ h2, Below.heap_setCell _ _ _ _ h2, Below.heap_setCell _ _ _ _ h2, Below.heap_setCell _ _ _ _ h2, Below.heap_setCell _ _ _ _ h2, Below.heap_setCell _ _ _ _ h2]⟩
theorem K3.set4 {R T U i : Nat} {W : World} {v0 v1 v2 v3 : Value} : K3 R T U i W ((((W.setCell ⟨U, 0, none⟩ v0).setCell ⟨U, 1, none⟩ v1).setCell ⟨U, 2, none⟩ v2).setCell ⟨U, 3, none⟩ v3) :=
  ⟨by simp [World.setCell], fun b _ _ _ h2 => by
    rw [Below.heap_setCell _ _ _ _ h2, Below.heap_setCell _ _ _ _ h2, Below.heap_setCell _ _ _ _ h2, Below.heap_setCell _ _ _ _ h2]⟩
/-- The result's four cells, told. -/
def StC (N U : Nat) (W : World) : Prop := ∃ (on : Bool) (s x y : Value), W.cell? ⟨U, 0, none⟩ = some (.bool on) ∧ W.cell? ⟨U, 1, none⟩ = some s ∧ W.cell? ⟨U, 2, none⟩ = some x ∧ W.cell? ⟨U, 3, none⟩ = some y ∧ StD N (.agg #[.bool on, s, x, y]) W

theorem StC.keep {N U : Nat} {W W' : World} (h : StC N U W) (hU : W'.heap[U]? = W.heap[U]?) (hs : ∀ v, StD N v W → StD N v W') : StC N U W' := by
  obtain ⟨on, s, x, y, h0, h1, h2, h3, h4⟩ := h
  exact ⟨on, s, x, y, (World.cell?_of_block (a := ⟨U, 0, none⟩) hU).trans h0, (World.cell?_of_block (a := ⟨U, 1, none⟩) hU).trans h1, (World.cell?_of_block (a := ⟨U, 2, none⟩) hU).trans h2, (World.cell?_of_block (a := ⟨U, 3, none⟩) hU).trans h3, hs _ h4⟩
theorem heap_set4 {W : World} {U b : Nat} {v0 v1 v2 v3 : Value} (h : b ≠ U) : ((((W.setCell ⟨U, 0, none⟩ v0).setCell ⟨U, 1, none⟩ v1).setCell ⟨U, 2, none⟩ v2).setCell ⟨U, 3, none⟩ v3).heap[b]? = W.heap[b]? := by
  rw [Below.heap_setCell _ _ _ _ h, Below.heap_setCell _ _ _ _ h, Below.heap_setCell _ _ _ _ h, Below.heap_setCell _ _ _ _ h]
/-- The list of a drawn state, told: n bounds at aa, in block g, at or behind N. -/
structure StE (N : Nat) (aa : Option Addr) (g n : Nat) (zl zh : Nat → Int) (W : World) : Prop where
  le : n ≤ 4
  own : 0 < n → N ≤ g
  at_ : BndsAt aa g 0 n zl zh W
theorem StE.next {N R T U i : Nat} {aa : Option Addr} {g n : Nat} {zl zh : Nat → Int} {W W' : World} (h : StE N aa g n zl zh W) (k : K3 R T U i W W') (hR : R < N) (hT : T < N) (hU : U < N) : StE N aa g n zl zh W' := by
  have hb : 0 < n → W'.heap[g]? = W.heap[g]? := fun hn => by
    have := h.own hn
    exact k.2 g (h.at_.lt hn) (by omega) (by omega) (by omega)
  exact ⟨h.le, h.own, h.at_.at_, fun hn => Nat.lt_of_lt_of_le (h.at_.lt hn) k.1, fun j hj => (World.cell?_of_block (a := ⟨g, _, none⟩) (hb (by omega))).trans (h.at_.lo j hj), fun j hj => (World.cell?_of_block (a := ⟨g, _, none⟩) (hb (by omega))).trans (h.at_.hi j hj)⟩
theorem StE.std {N : Nat} {aa : Option Addr} {g n : Nat} {zl zh : Nat → Int} {W : World} (h : StE N aa g n zl zh W) (on : Bool) (cp : Nat) (x y : Int) : StD N (.agg #[.bool on, .slice aa n cp, .int .i64 x, .int .i64 y]) W := by
  refine ⟨on, aa, g, n, cp, fun j => if j % 2 = 0 then zl (j / 2) else zh (j / 2), x, y, rfl, h.le, fun hn => ⟨h.at_.at_ hn, h.own hn, h.at_.lt hn⟩, fun j hj => ?_⟩
  rcases (show j % 2 = 0 ∨ j % 2 = 1 by omega) with e | e
  · have := h.at_.lo (j / 2) (by omega)
    rw [Nat.zero_add, show j / 2 * 2 = j by omega] at this
    simp only [e, if_true]
    exact this
  · have := h.at_.hi (j / 2) (by omega)
    rw [Nat.zero_add, show j / 2 * 2 + 1 = j by omega] at this
    have e' : ¬ j % 2 = 0 := by omega
    simp only [e', if_false]
    exact this
theorem StD.told {N : Nat} {on : Bool} {aa : Option Addr} {n cp : Nat} {x y : Int} {W : World} (h : StD N (.agg #[.bool on, .slice aa n cp, .int .i64 x, .int .i64 y]) W) : ∃ g zl zh, StE N aa g n zl zh W := by
  obtain ⟨on', aa', g, n', cap, zs, x', y', h1, h2, h3, h4⟩ := h
  simp at h1
  obtain ⟨_, ⟨rfl, rfl, _⟩, _, _⟩ := h1
  exact ⟨g, fun k => zs (k * 2), fun k => zs (k * 2 + 1), h2, fun hn => (h3 hn).2.1, fun hn => (h3 hn).1, fun hn => (h3 hn).2.2, fun k hk => by simpa using h4 (k * 2) (by omega), fun k hk => by simpa using h4 (k * 2 + 1) (by omega)⟩
theorem StD.base {N M : Nat} {v : Value} {W : World} (h : StD N v W) (hM : M ≤ N) : StD M v W := by
  obtain ⟨on, aa, g, n, cap, zs, x, y, h1, h2, h3, h4⟩ := h
  exact ⟨on, aa, g, n, cap, zs, x, y, h1, h2, fun hn => ⟨(h3 hn).1, Nat.le_trans hM (h3 hn).2.1, (h3 hn).2.2⟩, h4⟩
theorem k3s {R T U i : Nat} {W W' : World} (k : K3 R U T i W W') : K3 R T U i W W' := ⟨k.1, fun b h1 h2 h3 h4 => k.2 b h1 h2 h4 h3⟩
theorem Dr.new4q {w : World} {R : Nat} {a : Option Addr} {m c : Nat} {z : Nat → Int} {Q : Nat} {F : List Sp} {W : World} (h : Dr w R a m c z Q F W) {v0 v1 v2 v3 : Value} {t : TypeId} {P0 P1 P2 P3 : Value → Prop} (i0 : P0 v0) (i1 : P1 v1) (i2 : P2 v2) (i3 : P3 v3) : Dr w R a m c z Q (⟨W.heap.size, 0, P0⟩ :: ⟨W.heap.size, 1, P1⟩ :: ⟨W.heap.size, 2, P2⟩ :: ⟨W.heap.size, 3, P3⟩ :: F) (W.alloc (.cells #[v0, v1, v2, v3] t)) := by
  obtain ⟨p, hp, hr⟩ := h.rd
  have hR := hr.size
  have hs := h.grown.size
  refine ⟨⟨p, hp, hr.kept (World.grownBy_alloc _ _ none) (by simp)⟩, grown_trans h.grown (World.grownBy_alloc _ _ _), ?_⟩
  refine Fs.cons (by show W.heap.size ≠ R; omega) hs (by show W.heap.size < _; simp) (by simp [go_sem]) (v := v0) (by simp [go_sem]) i0 ?_
  refine Fs.cons (by show W.heap.size ≠ R; omega) hs (by show W.heap.size < _; simp) (by simp [go_sem]) (v := v1) (by simp [go_sem]) i1 ?_
  refine Fs.cons (by show W.heap.size ≠ R; omega) hs (by show W.heap.size < _; simp) (by simp [go_sem]) (v := v2) (by simp [go_sem]) i2 ?_
  exact Fs.cons (by show W.heap.size ≠ R; omega) hs (by show W.heap.size < _; simp) (by simp [go_sem]) (v := v3) (by simp [go_sem]) i3 (h.fs.alloc _)
/-- Two results' boxes, T and U, and what is drawn (v0, in box X); operations s and t fill them. -/
structure TwoD (w : World) (R : Nat) (a : Option Addr) (m c : Nat) (z : Nat → Int) (Q K n : Nat) (F : List Sp) (N T U : Nat) (aa : Option Addr) (g0 n0 : Nat) (zl zh : Nat → Int) (s t : Nat) (L : Nat → Bool) (W : World) : Prop where
  ds : DS w R a m c z Q K n F L W
  lT : T < W.heap.size
  lU : U < W.heap.size
  st : StE N aa g0 n0 zl zh W
  c1 : L s = true → StC N T W
  c2 : L t = true → StC N U W
theorem TwoD.start {w : World} {R : Nat} {a : Option Addr} {m c : Nat} {z : Nat → Int} {Q K n : Nat} {F : List Sp} {N T U : Nat} {aa : Option Addr} {g0 n0 : Nat} {zl zh : Nat → Int} {s t : Nat} {W : World} (d : Dr w R a m c z Q F W) (st : StE N aa g0 n0 zl zh W) (hT : T ≤ R) (hU : U ≤ R) (hR : R < N) : TwoD w R a m c z Q K n F N T U aa g0 n0 zl zh s t (fun _ => false) W.drew := by
  obtain ⟨p, _, hr⟩ := d.rd
  have := hr.size
  have k : K3 R R R 0 W W.drew := ⟨Nat.le_refl _, fun _ _ _ _ _ => rfl⟩
  exact ⟨DS.start d.drew, Nat.lt_of_le_of_lt hT this, Nat.lt_of_le_of_lt hU this, st.next k hR hR hR, (fun h => by cases h), (fun h => by cases h)⟩
theorem TwoD.pure {w : World} {R : Nat} {a : Option Addr} {m c : Nat} {z : Nat → Int} {Q K n : Nat} {F : List Sp} {N T U : Nat} {aa : Option Addr} {g0 n0 : Nat} {zl zh : Nat → Int} {s t : Nat} {L : Nat → Bool} {W : World} (h : TwoD w R a m c z Q K n F N T U aa g0 n0 zl zh s t L W) {i : Nat} (hL : L i = false) (hi : i < n) (hs : i ≠ s) (ht : i ≠ t) : TwoD w R a m c z Q K n F N T U aa g0 n0 zl zh s t (upd L i true) W :=
  ⟨h.ds.pure hL hi, h.lT, h.lU, h.st, fun e => h.c1 (by rwa [upd_other _ _ (Ne.symm hs)] at e), fun e => h.c2 (by rwa [upd_other _ _ (Ne.symm ht)] at e)⟩
theorem TwoD.call {w : World} {R : Nat} {a : Option Addr} {m c : Nat} {z : Nat → Int} {Q K n : Nat} {F : List Sp} {N T U : Nat} {aa : Option Addr} {g0 n0 : Nat} {zl zh : Nat → Int} {s t : Nat} {L : Nat → Bool} {W W' : World} (h : TwoD w R a m c z Q K n F N T U aa g0 n0 zl zh s t L W) {i : Nat} (hL : L i = false) (hi : i < n) (hs : i ≠ s) (ht : i ≠ t) (hR : R < N) (hT : T < N) (hU : U < N) (hRT : T ≠ R) (hRU : U ≠ R) {p : Nat} (hr : Rd W' R a m c z p) (g : W.grownBy W' (some R)) (hp : p ≤ Q + K * cnt L n + K) : TwoD w R a m c z Q K n F N T U aa g0 n0 zl zh s t (upd L i true) W' := by
  have k : K3 R T U 0 W W' := K3.of g
  have hv := fun v (hv : StD N v W) => hv.next k hR hT hU
  exact ⟨h.ds.call hL hi hr g hp, Nat.lt_of_lt_of_le h.lT g.size, Nat.lt_of_lt_of_le h.lU g.size, h.st.next k hR hT hU, fun e => (h.c1 (by rwa [upd_other _ _ (Ne.symm hs)] at e)).keep (g.block _ h.lT (fun e => hRT (by injection e))) hv, fun e => (h.c2 (by rwa [upd_other _ _ (Ne.symm ht)] at e)).keep (g.block _ h.lU (fun e => hRU (by injection e))) hv⟩
theorem StC.made {N U : Nat} {W : World} {on : Bool} {x1 x2 x3 q0 q1 q2 q3 : Value} (c0 : W.cell? ⟨U, 0, none⟩ = some q0) (c1 : W.cell? ⟨U, 1, none⟩ = some q1) (c2 : W.cell? ⟨U, 2, none⟩ = some q2) (c3 : W.cell? ⟨U, 3, none⟩ = some q3) (h : StD N (.agg #[.bool on, x1, x2, x3]) ((((W.setCell ⟨U, 0, none⟩ (.bool on)).setCell ⟨U, 1, none⟩ x1).setCell ⟨U, 2, none⟩ x2).setCell ⟨U, 3, none⟩ x3)) : StC N U ((((W.setCell ⟨U, 0, none⟩ (.bool on)).setCell ⟨U, 1, none⟩ x1).setCell ⟨U, 2, none⟩ x2).setCell ⟨U, 3, none⟩ x3) := by
  obtain ⟨e0, e1, e2, e3⟩ := own4q c0 c1 c2 c3
  refine ⟨on, _, _, _, ?_, ?_, ?_, e3 _ _ _ _, h⟩
  · rw [World.cell?_setCell_other _ _ _ _ (by simp), World.cell?_setCell_other _ _ _ _ (by simp), World.cell?_setCell_other _ _ _ _ (by simp)]
    exact e0 _
  · rw [World.cell?_setCell_other _ _ _ _ (by simp), World.cell?_setCell_other _ _ _ _ (by simp)]
    exact e1 _ _
  · rw [World.cell?_setCell_other _ _ _ _ (by simp)]
    exact e2 _ _ _
theorem TwoD.stoT {w : World} {R : Nat} {a : Option Addr} {m c : Nat} {z : Nat → Int} {Q K n : Nat} {F : List Sp} {N T U : Nat} {aa : Option Addr} {g0 n0 : Nat} {zl zh : Nat → Int} {s t : Nat} {L : Nat → Bool} {W : World} (h : TwoD w R a m c z Q K n F N T U aa g0 n0 zl zh s t L W) (hL : L s = false) (hs : s < n) (hst : s ≠ t) (hR : R < N) (hT : T < N) (hU : U < N) (hRT : T ≠ R) (hTU : T ≠ U) (ho : Old w a m) (hwT : w.heap.size ≤ T) (hF : ∀ f ∈ F, f.b = T → ∀ v, f.P v) {on : Bool} {x1 x2 x3 q0 q1 q2 q3 : Value} (c0 : W.cell? ⟨T, 0, none⟩ = some q0) (c1 : W.cell? ⟨T, 1, none⟩ = some q1) (c2 : W.cell? ⟨T, 2, none⟩ = some q2) (c3 : W.cell? ⟨T, 3, none⟩ = some q3) (hv : StD N (.agg #[.bool on, x1, x2, x3]) W) : TwoD w R a m c z Q K n F N T U aa g0 n0 zl zh s t (upd L s true) ((((W.setCell ⟨T, 0, none⟩ (.bool on)).setCell ⟨T, 1, none⟩ x1).setCell ⟨T, 2, none⟩ x2).setCell ⟨T, 3, none⟩ x3) := by
  have k : K3 R U T 0 W ((((W.setCell ⟨T, 0, none⟩ (.bool on)).setCell ⟨T, 1, none⟩ x1).setCell ⟨T, 2, none⟩ x2).setCell ⟨T, 3, none⟩ x3) := K3.set4
  have hn := fun v (hv : StD N v W) => hv.next k hR hU hT
  have d := (((h.ds.set ho hRT hwT (i := 0) (v := .bool on) (fun f hf hb _ => hF f hf hb _)).set ho hRT hwT (i := 1) (v := x1) (fun f hf hb _ => hF f hf hb _)).set ho hRT hwT (i := 2) (v := x2) (fun f hf hb _ => hF f hf hb _)).set ho hRT hwT (i := 3) (v := x3) (fun f hf hb _ => hF f hf hb _)
  exact ⟨d.pure hL hs, Nat.lt_of_lt_of_le h.lT k.1, Nat.lt_of_lt_of_le h.lU k.1, h.st.next k hR hU hT, fun _ => StC.made c0 c1 c2 c3 (hn _ hv), fun e => (h.c2 (by rwa [upd_other _ _ (Ne.symm hst)] at e)).keep (heap_set4 (Ne.symm hTU)) hn⟩
theorem TwoD.swap {w : World} {R : Nat} {a : Option Addr} {m c : Nat} {z : Nat → Int} {Q K n : Nat} {F : List Sp} {N T U : Nat} {aa : Option Addr} {g0 n0 : Nat} {zl zh : Nat → Int} {s t : Nat} {L : Nat → Bool} {W : World} (h : TwoD w R a m c z Q K n F N T U aa g0 n0 zl zh s t L W) : TwoD w R a m c z Q K n F N U T aa g0 n0 zl zh t s L W := ⟨h.ds, h.lU, h.lT, h.st, h.c2, h.c1⟩
end Go.Proofs.Ytiehokibfdaleaa
namespace Go.Proofs.Ytiehokibfdaleaa
open Go.ChangeShapes Go.WideShapes Go.ChangeAt Go.RowKit

theorem itvOk_in {a b : Int} (h : itvOk a b = true) : -32768 ≤ a ∧ a ≤ b ∧ b ≤ 32767 := by
  obtain ⟨h1, h2, h3⟩ := itvOk_of h
  simp [okB] at h1 h2
  omega
theorem absOk_on {on : Bool} {n : Nat} {lo hi : Nat → Int} {x y : Int} (h : absOk on n lo hi x y = true) (ho : on = true) : n = 4 ∧ -32768 ≤ x ∧ x ≤ y ∧ y ≤ 32767 ∧ ∀ k, k < 4 → -32768 ≤ lo k ∧ lo k ≤ hi k ∧ hi k ≤ 32767 := by
  subst ho
  unfold absOk at h
  simp only [Bool.and_eq_true, decide_eq_true_eq] at h
  obtain ⟨h1, h2, h3⟩ := h
  subst h1
  have h4 := itvOk_in h2
  exact ⟨rfl, h4.1, h4.2.1, h4.2.2, fun j hj => itvOk_in (allOk_at hj h3)⟩
set_option maxRecDepth 10000 in
set_option maxHeartbeats 8000000 in
theorem withinD (R : Nat) (a : Option Addr) (m c : Nat) (z : Nat → Int) (p : Nat) (on : Bool) (aa : Option Addr) (g off n cap : Nat) (zl zh : Nat → Int) (sx sy : Int) (u : World) (h : Rd u R a m c z p) (hp : p < 400000) (hC : BndsAt aa g off n zl zh u) (hgR : 0 < n → g ≠ R) (hok : absOk on n zl zh sx sy = true) :
    Calls Try.prog 38 #[.pointer (some ⟨R, 0, none⟩), .agg #[.bool on, .slice aa n cap, .int .i64 sx, .int .i64 sy]] u (DState R a m c z p u) := by
  obtain ⟨i0, hi, hz0, hz1, hz2⟩ := info_parts infoItvQ
  have hRu := h.size
  have hold := old_rd h
  go_enter Try.func38, Try.ntmps38
  cases on
  case false =>
    have gA : u.grownBy ((u.alloc (.cells #[.bool false, .slice aa n cap, .int .i64 sx, .int .i64 sy] 27)).alloc (.cells #[.bool false, .slice none 0 0, .int .i64 0, .int .i64 0] 27)) (some R) := grown_trans (World.grownBy_alloc _ _ _) (World.grownBy_alloc _ _ _)
    have Da : Dr u R a m c z p [] ((u.alloc (.cells #[.bool false, .slice aa n cap, .int .i64 sx, .int .i64 sy] 27)).alloc (.cells #[.bool false, .slice none 0 0, .int .i64 0, .int .i64 0] 27)) := ⟨⟨p, Nat.le_refl _, (h.kept (World.grownBy_alloc _ _ none) (by simp)).kept (World.grownBy_alloc _ _ none) (by simp)⟩, gA, Fs.nil _ _ _⟩
    obtain ⟨p8, hp8, h8⟩ := Da.rd
    have g8 := Da.grown
    clear Da gA h
    go_wp2_with fail
    exact bodyPost_ret (v := .agg #[.bool false, .slice none 0 0, .int .i64 0, .int .i64 0]) (by simp [results, Try.results38, go_sem]) rfl ⟨false, none, 0, 0, 0, fun _ => 0, 0, 0, p8, rfl, by omega, by constructor <;> omega, by constructor <;> omega, fun e => absurd e (by decide), fun j hj => by omega, by omega, h8, g8⟩
  case true =>
    obtain ⟨rfl, y0, y1, y2, hb⟩ := absOk_on hok rfl
    obtain rfl := hC.at_ (by omega)
    replace hgR := hgR (by omega)
    have hgu := hC.lt (by omega)
    clear hok
    obtain ⟨w, hw⟩ : ∃ w, w = u.alloc (.cells #[.bool true, .slice (some ⟨g, off, none⟩) 4 cap, .int .i64 sx, .int .i64 sy] 27) := ⟨_, rfl⟩
    have gu : u.grownBy w (some R) := hw ▸ World.grownBy_alloc _ _ _
    have hws : w.heap.size = u.heap.size + 1 := by rw [hw]; simp
    have x0 : w.cell? ⟨u.heap.size, 0, none⟩ = some (.bool true) := by rw [hw]; simp [go_sem]
    have x1 : w.cell? ⟨u.heap.size, 1, none⟩ = some (.slice (some ⟨g, off, none⟩) 4 cap) := by rw [hw]; simp [go_sem]
    have x2 : w.cell? ⟨u.heap.size, 2, none⟩ = some (.int .i64 sx) := by rw [hw]; simp [go_sem]
    have x3 : w.cell? ⟨u.heap.size, 3, none⟩ = some (.int .i64 sy) := by rw [hw]; simp [go_sem]
    have hCw : BndsAt (some ⟨g, off, none⟩) g off 4 zl zh w := hC.next (by rw [hw]; exact (Below.refl _ _).alloc (Nat.le_refl _) _)
    have hw0 : Rd w R a m c z p := h.kept (hw ▸ World.grownBy_alloc _ _ none) (by simp)
    have hwS : Hid (w = u.alloc (.cells #[.bool true, .slice (some ⟨g, off, none⟩) 4 cap, .int .i64 sx, .int .i64 sy] 27)) := hw
    clear h hC
    go_wp2_with fail
    rw [← hwS.out, ← hws]
    obtain ⟨X, hX⟩ : ∃ X, X = u.heap.size := ⟨_, rfl⟩
    rw [← hX]
    rw [← hX] at x0 x1 x2 x3 hgu hws hRu
    have hXu : Hid (X = u.heap.size) := hX
    clear hX hw hwS x0
    have hRs : R < w.heap.size := by omega
    have hXw : X < w.heap.size := by omega
    have hXR : X ≠ R := by omega
    have hgw : g < w.heap.size := by omega
    clear hws
    have hold : Old w a m := old_rd hw0
    refine (oddU R a m c z p 12 _ (hw0.kept (World.grownBy_alloc _ _ none) (by simp)) (by omega) (by omega)).mono ?_
    rintro e w1 ⟨o, p1, rfl, hp1, h1, g1⟩
    have gw1 : w.grownBy w1 (some R) := grown_trans (World.grownBy_alloc _ _ _) g1
    cases o
    case true =>
      obtain ⟨hc, hf⟩ := gcell g1
      have hne : ¬ w.heap.size = R := by omega
      have c0 : w1.cell? ⟨w.heap.size, 0, none⟩ = some (.bool false) := (hc w.heap.size 0 (by simp) hne).trans (by simp [go_sem])
      have c1 : w1.cell? ⟨w.heap.size, 1, none⟩ = some (.slice none 0 0) := (hc w.heap.size 1 (by simp) hne).trans (by simp [go_sem])
      have c2 : w1.cell? ⟨w.heap.size, 2, none⟩ = some (.int .i64 0) := (hc w.heap.size 2 (by simp) hne).trans (by simp [go_sem])
      have c3 : w1.cell? ⟨w.heap.size, 3, none⟩ = some (.int .i64 0) := (hc w.heap.size 3 (by simp) hne).trans (by simp [go_sem])
      have ff : ∀ i, w1.frozen? ⟨w.heap.size, i, none⟩ = false := fun i => (hf w.heap.size i (by simp) hne).trans (World.frozen?_alloc_new _ _ _ _)
      have f0 := ff 0
      have f1 := ff 1
      have f2 := ff 2
      have f3 := ff 3
      have Da : Dr w R a m c z p1 [] w1 := ⟨⟨p1, Nat.le_refl _, h1⟩, gw1, Fs.nil _ _ _⟩
      obtain ⟨e0, e1, e2, e3⟩ := own4q c0 c1 c2 c3
      have hT2 : w.heap.size ≠ R := by omega
      have Dz := (((Da.set hold hT2 (Nat.le_refl _) (i := 0) (v := .bool false) (fun f hf => by cases hf)).set hold hT2 (Nat.le_refl _) (i := 1) (v := .slice none 0 0) (fun f hf => by cases hf)).set hold hT2 (Nat.le_refl _) (i := 2) (v := .int .i64 0) (fun f hf => by cases hf)).set hold hT2 (Nat.le_refl _) (i := 3) (v := .int .i64 0) (fun f hf => by cases hf)
      obtain ⟨p8, hp8, h8⟩ := Dz.rd
      have g8 := grown_trans gu Dz.grown
      clear Da Dz h1 g1 gw1 hc hf ff
      go_wp2_with fail
      exact bodyPost_ret (v := .agg #[.bool false, .slice none 0 0, .int .i64 0, .int .i64 0]) (by simp [results, Try.results38, go_sem, e0, e1, e2, e3]) rfl ⟨false, none, 0, 0, 0, fun _ => 0, 0, 0, p8, rfl, by omega, by constructor <;> omega, by constructor <;> omega, fun e => absurd e (by decide), fun j hj => by omega, by omega, h8, g8⟩
    case false =>
    have q2 := ((gcell gw1).1 X 2 hXw hXR).trans x2
    have q3 := ((gcell gw1).1 X 3 hXw hXR).trans x3
    go_wp2_with fail
    refine (innerD R a m c z p1 sx sy _ h1 (by omega) y0 y1 y2).mono ?_
    rintro e w2 ⟨x, y, p2, hx, hy, rfl, hp2, h2, g2⟩
    have b1 := PBq.made (Q := p + 21) 25 (eB := 27) hx hy hRs h2 (grown_trans g1 g2) (by omega)
    have hTB : w.heap.size < w2.heap.size := by have := (grown_trans g1 g2).size; simp at this; omega
    obtain ⟨F, hF⟩ : ∃ F, F = stF w2.heap.size w.heap.size := ⟨_, rfl⟩
    rw [← hF] at b1
    have hF1 : ∀ f ∈ F, f.b = w2.heap.size ∨ f.b = w.heap.size := by rw [hF]; exact stF_in
    have hF2 : ∀ f ∈ F, f.b = w2.heap.size → f.o ≠ 1 := by rw [hF]; exact stF_no (by omega)
    obtain ⟨B, hB⟩ : ∃ B, w2.heap.size = B := ⟨_, rfl⟩
    go_wp2_with fail
    rw [hB] at b1 hF1 hF2 hTB hF
    try rw [hB]
    clear hB q2 q3
    have hBR : B ≠ R := by omega
    have hTR : w.heap.size ≠ R := by omega
    clear h2 g2 h1 g1 gw1 hw0 hx hy x2 x3 y0 y1 y2
    go_loopw [6] (fun i W => ∃ (kk : Nat) (cv : Value), i = .int .i64 kk ∧ kk ≤ 4 ∧ PBq w R a m c z (p + 21 + 325 * kk) F B w.heap.size 1 w.heap.size 27 25 cv kk W) (fun i _ => 4 - (intOf i).toNat)
    case atStart => exact ⟨0, _, rfl, by omega, b1⟩
    case round =>
      obtain ⟨kk, cv, rfl, hk, b⟩ := hrel
      clear b1
      by_cases hlt : kk < 4
      · have t1 : (kk : Int) < 4 := by omega
        have hkk : kk ≤ 1000 := by omega
        have hRN : R < w.heap.size := hRs
        have tk0 : ((kk : Int)).toNat = kk := by omega
        have tk1 : (0 : Int) ≤ (kk : Int) := by omega
        obtain ⟨hr0, hr1, hr2⟩ := hb kk hlt
        have hlo := hCw.lo kk hlt
        have hhi := hCw.hi kk hlt
        have hS0 : ApQ w R a m c z (p + 21 + 325 * kk) 25 13 F B w.heap.size 1 w.heap.size 27 25 cv kk 10 12 (fun _ => false) _ := b.start
        go_wp2_with fail
        refine region_inv3 [(0, 24), (1, 25), (2, 26), (3, 27), (4, 28), (5, 29), (6, 30), (7, 31), (8, 32), (9, 33), (10, 34), (11, 35)]
          (fun j v W => match j with
            | 0 => Is (.pointer (some ⟨B, 1, none⟩)) v
            | 1 => Is cv v
            | 2 => Is (.pointer (some ⟨R, 0, none⟩)) v
            | 3 => Is (.pointer (some ⟨X, 1, none⟩)) v
            | 4 => Is (.slice (some ⟨g, off, none⟩) 4 cap) v
            | 5 => Is (.int .i64 kk) v
            | 6 => Is (.pointer (some ⟨g, off + kk * 2, none⟩)) v
            | 7 => Is (.agg #[.int .i64 (zl kk), .int .i64 (zh kk)]) v
            | 8 => IsQ v
            | 9 => NewQ R B w.heap.size cv.ownBlock v W
            | 10 => AppQ w.heap.size 25 (kk + 1) R B v W
            | 11 => Is (.pointer (some ⟨B, 1, none⟩)) v
            | _ => True)
          (fun L W => ApQ w R a m c z (p + 21 + 325 * kk) 25 13 F B w.heap.size 1 w.heap.size 27 25 cv kk 10 12 L W ∧ Ord 1 9 10 12 L) (TA R B cv.ownBlock 10)
          (by kernel_rfl) (by kernel_rfl) (by kernel_rfl) (by kernel_rfl) (by kernel_rfl) rfl ⟨hS0, Ord.start _ _ _ _⟩ ?_ ?_ ?_
        · intro i j v W W' hji hφ hT
          match j, hji, hφ with
          | 0, _, hφ => exact hφ
          | 1, _, hφ => exact hφ
          | 2, _, hφ => exact hφ
          | 3, _, hφ => exact hφ
          | 4, _, hφ => exact hφ
          | 5, _, hφ => exact hφ
          | 6, _, hφ => exact hφ
          | 7, _, hφ => exact hφ
          | 8, _, hφ => exact hφ
          | 9, _, hφ => exact NewQ.next hφ hT
          | 10, hji, hφ => exact AppQ.next hφ hT (fun x => hji x.symm)
          | 11, _, hφ => exact hφ
          | 12, _, hφ => exact hφ
          | _ + 13, _, _ => trivial
        · intro i L vals W hi' hφ hSS hL hd
          have hi2 : i < 13 := hi'
          clear hi'
          obtain ⟨hS, hord⟩ := hSS
          have hbd := DS.bd (K := 25) (n := 13) (L := L)
          obtain ⟨p', hp', hr⟩ := hS.ds.rd
          have hrs := hr.size
          have hlB := hS.lB
          rcases (show i = 0 ∨ i = 1 ∨ i = 2 ∨ i = 3 ∨ i = 4 ∨ i = 5 ∨ i = 6 ∨ i = 7 ∨ i = 8 ∨ i = 9 ∨ i = 10 ∨ i = 11 ∨ i = 12 by omega) with rfl | rfl | rfl | rfl | rfl | rfl | rfl | rfl | rfl | rfl | rfl | rfl | rfl
          · refine wpAt_of rfl rfl ?_
            simp only [frOf, Act.put]
            go_wp2_with fail
            first | exact ⟨trivial, rfl, TA.refl _ _ _ _ _ _, hS.pure hL (by decide) (by decide) (by decide) hBR hTR hRN, hord.step (by decide) (by decide)⟩ | exact ⟨rfl, TA.refl _ _ _ _ _ _, hS.pure hL (by decide) (by decide) (by decide) hBR hTR hRN, hord.step (by decide) (by decide)⟩
          · have k0 : vals 0 = .pointer (some ⟨B, 1, none⟩) := hφ 0 (hd 0 (by decide))
            have hst : L 12 = false := by cases h : L 12 with | false => rfl | true => (rw [(hord.1 h).1] at hL; cases hL)
            have cL := hS.cell hst
            refine wpAt_of rfl rfl ?_
            simp only [frOf, Act.put]
            go_wp2_with fail
            first | exact ⟨trivial, rfl, TA.refl _ _ _ _ _ _, hS.pure hL (by decide) (by decide) (by decide) hBR hTR hRN, hord.step (by decide) (by decide)⟩ | exact ⟨rfl, TA.refl _ _ _ _ _ _, hS.pure hL (by decide) (by decide) (by decide) hBR hTR hRN, hord.step (by decide) (by decide)⟩
          · refine wpAt_of rfl rfl ?_
            simp only [frOf, Act.put]
            go_wp2_with fail
            first | exact ⟨trivial, rfl, TA.refl _ _ _ _ _ _, hS.pure hL (by decide) (by decide) (by decide) hBR hTR hRN, hord.step (by decide) (by decide)⟩ | exact ⟨rfl, TA.refl _ _ _ _ _ _, hS.pure hL (by decide) (by decide) (by decide) hBR hTR hRN, hord.step (by decide) (by decide)⟩
          · refine wpAt_of rfl rfl ?_
            simp only [frOf, Act.put]
            go_wp2_with fail
            first | exact ⟨trivial, rfl, TA.refl _ _ _ _ _ _, hS.pure hL (by decide) (by decide) (by decide) hBR hTR hRN, hord.step (by decide) (by decide)⟩ | exact ⟨rfl, TA.refl _ _ _ _ _ _, hS.pure hL (by decide) (by decide) (by decide) hBR hTR hRN, hord.step (by decide) (by decide)⟩
          · have k3 : vals 3 = .pointer (some ⟨X, 1, none⟩) := hφ 3 (hd 3 (by decide))
            have q0 := (gcell hS.ds.grown).1 X 1 hXw hXR
            rw [x1] at q0
            refine wpAt_of rfl rfl ?_
            simp only [frOf, Act.put]
            go_wp2_with fail
            first | exact ⟨trivial, rfl, TA.refl _ _ _ _ _ _, hS.pure hL (by decide) (by decide) (by decide) hBR hTR hRN, hord.step (by decide) (by decide)⟩ | exact ⟨rfl, TA.refl _ _ _ _ _ _, hS.pure hL (by decide) (by decide) (by decide) hBR hTR hRN, hord.step (by decide) (by decide)⟩
          · refine wpAt_of rfl rfl ?_
            simp only [frOf, Act.put]
            go_wp2_with fail
            first | exact ⟨trivial, rfl, TA.refl _ _ _ _ _ _, hS.pure hL (by decide) (by decide) (by decide) hBR hTR hRN, hord.step (by decide) (by decide)⟩ | exact ⟨rfl, TA.refl _ _ _ _ _ _, hS.pure hL (by decide) (by decide) (by decide) hBR hTR hRN, hord.step (by decide) (by decide)⟩
          · have k4 : vals 4 = .slice (some ⟨g, off, none⟩) 4 cap := hφ 4 (hd 4 (by decide))
            have k5 : vals 5 = .int .i64 kk := hφ 5 (hd 5 (by decide))
            refine wpAt_of rfl rfl ?_
            simp only [frOf, Act.put]
            go_wp2_with fail
            first | exact ⟨trivial, rfl, TA.refl _ _ _ _ _ _, hS.pure hL (by decide) (by decide) (by decide) hBR hTR hRN, hord.step (by decide) (by decide)⟩ | exact ⟨rfl, TA.refl _ _ _ _ _ _, hS.pure hL (by decide) (by decide) (by decide) hBR hTR hRN, hord.step (by decide) (by decide)⟩
          · have k6 : vals 6 = .pointer (some ⟨g, off + kk * 2, none⟩) := hφ 6 (hd 6 (by decide))
            have q0 := (gcell hS.ds.grown).1 g (off + kk * 2) hgw hgR
            have q1 := (gcell hS.ds.grown).1 g (off + kk * 2 + 1) hgw hgR
            rw [hlo] at q0
            rw [hhi] at q1
            refine wpAt_of rfl rfl ?_
            simp only [frOf, Act.put]
            go_wp2_with fail
            first | exact ⟨trivial, rfl, TA.refl _ _ _ _ _ _, hS.pure hL (by decide) (by decide) (by decide) hBR hTR hRN, hord.step (by decide) (by decide)⟩ | exact ⟨rfl, TA.refl _ _ _ _ _ _, hS.pure hL (by decide) (by decide) (by decide) hBR hTR hRN, hord.step (by decide) (by decide)⟩
          · have k2 : vals 2 = .pointer (some ⟨R, 0, none⟩) := hφ 2 (hd 2 (by decide))
            have k7 : vals 7 = .agg #[.int .i64 (zl kk), .int .i64 (zh kk)] := hφ 7 (hd 7 (by decide))
            refine wpAt_of rfl rfl ?_
            simp only [frOf, Act.put]
            go_wp2_with fail
            refine (innerD R a m c z p' (zl kk) (zh kk) _ hr (by omega) hr0 hr1 hr2).mono ?_
            rintro e W' ⟨x, y, p2, hx, hy, rfl, hp2, hR', g⟩
            go_wp2_with fail
            first | exact ⟨trivial, ⟨x, y, rfl, hx, hy⟩, TA.of g, hS.call hL (by decide) (by decide) (by decide) hBR hTR hRN hR' g (by omega), hord.step (by decide) (by decide)⟩ | exact ⟨⟨x, y, rfl, hx, hy⟩, TA.of g, hS.call hL (by decide) (by decide) (by decide) hBR hTR hRN hR' g (by omega), hord.step (by decide) (by decide)⟩
          · obtain ⟨o8_0, o8_1, k8, i8_0, i8_1⟩ : IsQ (vals 8) := hφ 8 (hd 8 (by decide))
            have hob : ∀ g, cv.ownBlock = some g → g < W.heap.size := fun g hg => by
              cases hq : L 10 with
              | false => exact ((hS.own hq).blk hg).2.1
              | true => exact absurd (hord.2 hq) (by rw [hL]; simp)
            refine wpAt_of rfl rfl ?_
            simp only [frOf, Act.put]
            go_wp2_with fail
            first | exact ⟨trivial, NewQ.made (by have := hS.ds.grown.size; omega) hrs hlB hob ⟨_, rfl, i8_0⟩ ⟨_, rfl, i8_1⟩, TA.of (World.grownBy_alloc _ _ _), hS.alloc hL (by decide) (by decide) (by decide) hBR hTR hRN _, hord.step (by decide) (by decide)⟩ | exact ⟨NewQ.made (by have := hS.ds.grown.size; omega) hrs hlB hob ⟨_, rfl, i8_0⟩ ⟨_, rfl, i8_1⟩, TA.of (World.grownBy_alloc _ _ _), hS.alloc hL (by decide) (by decide) (by decide) hBR hTR hRN _, hord.step (by decide) (by decide)⟩
          · have k1 : vals 1 = cv := hφ 1 (hd 1 (by decide))
            obtain ⟨g9, y9_0, y9_1, k9, a9, b9, c9, d9, e9, ⟨j9_0, j9_1⟩, u9⟩ : NewQ R B w.heap.size cv.ownBlock (vals 9) W := hφ 9 (hd 9 (by decide))
            have hst : L 12 = false := by cases h : L 12 with | false => rfl | true => (rw [(hord.1 h).2] at hL; cases hL)
            obtain ⟨xs, ow, hxs⟩ := hS.own hL
            have hgs := hS.ds.grown.size
            refine wpAt_own_append rfl rfl rfl (by simp only [frOf, Act.put]; simp) (.tmp 25) (.tmp 33) 23 rfl w.heap.size 25 i0 (.agg #[.int .i64 0, .int .i64 0]) 2 16 Try.underlying23 hi hz0 hz1 hz2 rfl (by decide) _ _ _ (by simp only [frOf, Act.put, List.setIfInBounds_toArray, List.set_cons_succ, List.set_cons_zero]; exact k1) ow ⟨g9, 0, none⟩ 1 1 [y9_0, y9_1] (by simp only [frOf, Act.put, List.setIfInBounds_toArray, List.set_cons_succ, List.set_cons_zero]; exact k9) rfl (cellsQ u9) (allQ (isI_oneQ j9_0) (isI_oneQ j9_1)) (by simp [maxLen]; omega) (by omega) (by omega) ?_
            intro v' w' o' g'
            have hS' := hS.app hL (by decide) hst (by decide) (by decide) hRN (Nat.le_refl _) hF1 g'
            have ho' : OwnQ w.heap.size 25 v' (kk + 1) w' := ⟨_, o', fun x hx => (List.mem_append.1 hx).elim (hxs x) (allQ j9_0 j9_1 x)⟩
            have hv' : AppQ w.heap.size 25 (kk + 1) R B v' w' := ⟨ho', fun x => by have := (ho'.blk x).1; omega, hS'.typ.neQ ho' (by decide)⟩
            exact ⟨hv', TA.app g', hS', hord.app (by decide) (hd 9 (by decide))⟩
          · refine wpAt_of rfl rfl ?_
            simp only [frOf, Act.put]
            go_wp2_with fail
            first | exact ⟨trivial, rfl, TA.refl _ _ _ _ _ _, hS.pure hL (by decide) (by decide) (by decide) hBR hTR hRN, hord.step (by decide) (by decide)⟩ | exact ⟨rfl, TA.refl _ _ _ _ _ _, hS.pure hL (by decide) (by decide) (by decide) hBR hTR hRN, hord.step (by decide) (by decide)⟩
          · have v10 : AppQ w.heap.size 25 (kk + 1) R B (vals 10) W := hφ 10 (hd 10 (by decide))
            have k11 : vals 11 = .pointer (some ⟨B, 1, none⟩) := hφ 11 (hd 11 (by decide))
            have hLa := hd 10 (by decide)
            have hLl := hd 1 (by decide)
            have cL := hS.cell hL
            have fL := hS.free
            obtain ⟨vv, hvv⟩ : ∃ vv, vals 10 = vv := ⟨_, rfl⟩
            rw [hvv] at v10
            obtain ⟨gv, cpv, rfl⟩ : ∃ g cap, vv = .slice (some ⟨g, 0, none⟩) (kk + 1) cap := own_formQ v10.1
            refine wpAt_none rfl rfl ?_
            simp only [frOf, Act.put, hvv]
            go_wp2_with fail
            have hS' := hS.sto hL (by decide) hLa (by decide) hBR (by omega) hF2 hold v10 (by rw [cL]; rfl)
            first | exact ⟨trivial, trivial, TA.sto, hS', hord.sto hLl hLa⟩ | exact ⟨trivial, TA.sto, hS', hord.sto hLl hLa⟩
        · intro L vals W hall hφ hSS
          obtain ⟨hS, _⟩ := hSS
          obtain ⟨v, b'⟩ := PBq.of hS (hall 12 (by decide))
          clear hS hφ
          simp only [frOf, Act.put, List.setIfInBounds_toArray, List.set_cons_succ, List.set_cons_zero]
          go_wp2_with fail
          go_roundw
          case rel => exact ⟨kk + 1, v, by go_num, by omega, b'.more (by omega)⟩
          case measure => simp [intOf]; omega
      · obtain rfl : kk = 4 := by omega
        have hcl := b.cl
        rw [hF] at b
        obtain ⟨g', cap', rfl, hcap, hcap2, hgN, D7⟩ := PBq.all b (by omega) hBR hRs
        have hgT : g' ≠ w.heap.size := by
          obtain ⟨cur, hc⟩ := (b.ow.blk rfl).2.2
          obtain ⟨c', fr, hf⟩ := b.tT
          intro e
          rw [e, hf] at hc
          injection hc with hc
          injection hc with _ hc
          exact absurd hc (by decide)
        have hgB : g' ≠ B := by
          obtain ⟨cur, hc⟩ := (b.ow.blk rfl).2.2
          obtain ⟨c', fr, hf⟩ := b.tB
          intro e
          rw [e, hf] at hc
          injection hc with hc
          injection hc with _ hc
          exact absurd hc (by decide)
        clear b hF1 hF2 hk hCw hb
        obtain ⟨_, c0, b0, rfl⟩ := D7.has (f := ⟨B, 0, IsB⟩) (by simp [stA])
        obtain ⟨_, c1, n1, hn1, rfl⟩ := D7.has (f := ⟨B, 1, IsSl g' cap'⟩) (by simp [stA])
        obtain ⟨_, c2, x2, rfl, i2⟩ := D7.has (f := ⟨B, 2, IsI⟩) (by simp [stA])
        obtain ⟨_, c3, x3, rfl, i3⟩ := D7.has (f := ⟨B, 3, IsI⟩) (by simp [stA])
        obtain ⟨t0, ct0, _⟩ := D7.has (f := ⟨w.heap.size, 0, AnyQ⟩) (by simp [stA])
        have ft0 := D7.free (f := ⟨w.heap.size, 0, AnyQ⟩) (by simp [stA])
        obtain ⟨t1, ct1, _⟩ := D7.has (f := ⟨w.heap.size, 1, AnyQ⟩) (by simp [stA])
        have ft1 := D7.free (f := ⟨w.heap.size, 1, AnyQ⟩) (by simp [stA])
        obtain ⟨t2, ct2, _⟩ := D7.has (f := ⟨w.heap.size, 2, AnyQ⟩) (by simp [stA])
        have ft2 := D7.free (f := ⟨w.heap.size, 2, AnyQ⟩) (by simp [stA])
        obtain ⟨t3, ct3, _⟩ := D7.has (f := ⟨w.heap.size, 3, AnyQ⟩) (by simp [stA])
        have ft3 := D7.free (f := ⟨w.heap.size, 3, AnyQ⟩) (by simp [stA])
        obtain ⟨e0, e1, e2, e3⟩ := own4q ct0 ct1 ct2 ct3
        have hTne : w.heap.size ≠ B := by omega
        have D8 := (((D7.set hold hTR (Nat.le_refl _) (i := 0) (v := .bool b0) (stA_T hTne hgT 0 _)).set hold hTR (Nat.le_refl _) (i := 1) (v := .slice (some ⟨g', 0, none⟩) n1 cap') (stA_T hTne hgT 1 _)).set hold hTR (Nat.le_refl _) (i := 2) (v := .int .i64 x2) (stA_T hTne hgT 2 _)).set hold hTR (Nat.le_refl _) (i := 3) (v := .int .i64 x3) (stA_T hTne hgT 3 _)
        have hz := stA_zs D8
        obtain ⟨p8, hp8, h8⟩ := D8.rd
        have g8 := grown_trans gu D8.grown
        have hgN' : u.heap.size ≤ g' := by have := gu.size; omega
        clear D7 D8 hcl
        go_wp2_with fail
        exact bodyPost_ret (v := .agg #[.bool b0, .slice (some ⟨g', 0, none⟩) n1 cap', .int .i64 x2, .int .i64 x3]) (by simp [results, Try.results38, go_sem, e0, e1, e2, e3]) rfl ⟨b0, some ⟨g', 0, none⟩, g', n1, cap', _, x2, x3, p8, rfl, hn1, i2, i3, fun _ => ⟨rfl, hgN', hz.1⟩, fun j hj => hz.2 j (by omega), by omega, h8, g8⟩
end Go.Proofs.Ytiehokibfdaleaa
namespace Go.Proofs.Ytiehokibfdaleaa
open Go.ChangeShapes Go.WideShapes Go.ChangeAt Go.RowKit

/-- A reader opened behind the two results' boxes. -/
theorem dr_open44 {w w1 : World} {a : Option Addr} {m c : Nat} {z : Nat → Int} {t t' : TypeId} (h1 : Rd w1 (((w.alloc (.cells #[.bool false, .slice none 0 0, .int .i64 0, .int .i64 0] t)).alloc (.cells #[.bool false, .slice none 0 0, .int .i64 0, .int .i64 0] t'))).heap.size a m c z 0) (g1 : (((w.alloc (.cells #[.bool false, .slice none 0 0, .int .i64 0, .int .i64 0] t)).alloc (.cells #[.bool false, .slice none 0 0, .int .i64 0, .int .i64 0] t'))).grownBy w1 none) : Dr w (w.heap.size + 1 + 1) a m c z 0 [⟨w.heap.size + 1, 0, AnyQ⟩, ⟨w.heap.size + 1, 1, AnyQ⟩, ⟨w.heap.size + 1, 2, AnyQ⟩, ⟨w.heap.size + 1, 3, AnyQ⟩, ⟨w.heap.size, 0, AnyQ⟩, ⟨w.heap.size, 1, AnyQ⟩, ⟨w.heap.size, 2, AnyQ⟩, ⟨w.heap.size, 3, AnyQ⟩] w1 := by
  have e : (((w.alloc (.cells #[.bool false, .slice none 0 0, .int .i64 0, .int .i64 0] t)).alloc (.cells #[.bool false, .slice none 0 0, .int .i64 0, .int .i64 0] t'))).heap.size = w.heap.size + 1 + 1 := by simp
  rw [e] at h1
  have g2 : (((w.alloc (.cells #[.bool false, .slice none 0 0, .int .i64 0, .int .i64 0] t)).alloc (.cells #[.bool false, .slice none 0 0, .int .i64 0, .int .i64 0] t'))).grownBy w1 (some (w.heap.size + 1 + 1)) := ⟨g1.os, g1.tape, g1.output, g1.size, fun k hk _ => g1.block k hk (by simp)⟩
  have hc : ∀ b, b = w.heap.size ∨ b = w.heap.size + 1 → ∃ u, (((w.alloc (.cells #[.bool false, .slice none 0 0, .int .i64 0, .int .i64 0] t)).alloc (.cells #[.bool false, .slice none 0 0, .int .i64 0, .int .i64 0] t'))).heap[b]? = some (.cells #[.bool false, .slice none 0 0, .int .i64 0, .int .i64 0] u (0, 0)) := by
    rintro b (rfl | rfl)
    · exact ⟨t, (Below.heap_alloc _ _ _ (by simp)).trans (heap_alloc_new _ _)⟩
    · exact ⟨t', by have := heap_alloc_new ((w.alloc (.cells #[.bool false, .slice none 0 0, .int .i64 0, .int .i64 0] t))) (.cells #[.bool false, .slice none 0 0, .int .i64 0, .int .i64 0] t'); simpa using this⟩
  have hb : ∀ b, b = w.heap.size ∨ b = w.heap.size + 1 → ∀ i, i < 4 → ∃ v, (((w.alloc (.cells #[.bool false, .slice none 0 0, .int .i64 0, .int .i64 0] t)).alloc (.cells #[.bool false, .slice none 0 0, .int .i64 0, .int .i64 0] t'))).cell? ⟨b, i, none⟩ = some v ∧ (((w.alloc (.cells #[.bool false, .slice none 0 0, .int .i64 0, .int .i64 0] t)).alloc (.cells #[.bool false, .slice none 0 0, .int .i64 0, .int .i64 0] t'))).frozen? ⟨b, i, none⟩ = false := by
    intro b h i hi
    obtain ⟨u, hu⟩ := hc b h
    rcases (show i = 0 ∨ i = 1 ∨ i = 2 ∨ i = 3 by omega) with rfl | rfl | rfl | rfl <;> exact ⟨_, by unfold World.cell?; rw [hu]; rfl, by unfold World.frozen?; rw [hu]; rfl⟩
  refine ⟨⟨0, Nat.le_refl _, h1⟩, grown_trans (grown_trans (World.grownBy_alloc _ _ _) (World.grownBy_alloc _ _ _)) g2, ?_⟩
  refine Fs.next ?_ g2
  intro f hf
  simp only [List.mem_cons, List.not_mem_nil, or_false] at hf
  rcases hf with rfl | rfl | rfl | rfl | rfl | rfl | rfl | rfl
  · obtain ⟨v, h3, h4⟩ := hb (w.heap.size + 1) (by simp) 0 (by omega)
    exact ⟨by show (w.heap.size + 1) ≠ _; omega, by show _ ≤ (w.heap.size + 1); omega, by show (w.heap.size + 1) < _; simp, h4, v, h3, trivial⟩
  · obtain ⟨v, h3, h4⟩ := hb (w.heap.size + 1) (by simp) 1 (by omega)
    exact ⟨by show (w.heap.size + 1) ≠ _; omega, by show _ ≤ (w.heap.size + 1); omega, by show (w.heap.size + 1) < _; simp, h4, v, h3, trivial⟩
  · obtain ⟨v, h3, h4⟩ := hb (w.heap.size + 1) (by simp) 2 (by omega)
    exact ⟨by show (w.heap.size + 1) ≠ _; omega, by show _ ≤ (w.heap.size + 1); omega, by show (w.heap.size + 1) < _; simp, h4, v, h3, trivial⟩
  · obtain ⟨v, h3, h4⟩ := hb (w.heap.size + 1) (by simp) 3 (by omega)
    exact ⟨by show (w.heap.size + 1) ≠ _; omega, by show _ ≤ (w.heap.size + 1); omega, by show (w.heap.size + 1) < _; simp, h4, v, h3, trivial⟩
  · obtain ⟨v, h3, h4⟩ := hb w.heap.size (by simp) 0 (by omega)
    exact ⟨by show w.heap.size ≠ _; omega, by show _ ≤ w.heap.size; omega, by show w.heap.size < _; simp; omega, h4, v, h3, trivial⟩
  · obtain ⟨v, h3, h4⟩ := hb w.heap.size (by simp) 1 (by omega)
    exact ⟨by show w.heap.size ≠ _; omega, by show _ ≤ w.heap.size; omega, by show w.heap.size < _; simp; omega, h4, v, h3, trivial⟩
  · obtain ⟨v, h3, h4⟩ := hb w.heap.size (by simp) 2 (by omega)
    exact ⟨by show w.heap.size ≠ _; omega, by show _ ≤ w.heap.size; omega, by show w.heap.size < _; simp; omega, h4, v, h3, trivial⟩
  · obtain ⟨v, h3, h4⟩ := hb w.heap.size (by simp) 3 (by omega)
    exact ⟨by show w.heap.size ≠ _; omega, by show _ ≤ w.heap.size; omega, by show w.heap.size < _; simp; omega, h4, v, h3, trivial⟩

theorem set44 {W : World} {T U : Nat} (hTU : T ≠ U) {p0 p1 p2 p3 q0 q1 q2 q3 : Value} (c0 : W.cell? ⟨T, 0, none⟩ = some p0) (c1 : W.cell? ⟨T, 1, none⟩ = some p1) (c2 : W.cell? ⟨T, 2, none⟩ = some p2) (c3 : W.cell? ⟨T, 3, none⟩ = some p3) (d0 : W.cell? ⟨U, 0, none⟩ = some q0) (d1 : W.cell? ⟨U, 1, none⟩ = some q1) (d2 : W.cell? ⟨U, 2, none⟩ = some q2) (d3 : W.cell? ⟨U, 3, none⟩ = some q3) (x0 x1 x2 x3 y0 y1 y2 y3 : Value) :
    ((((((((W.setCell ⟨T, 0, none⟩ x0).setCell ⟨T, 1, none⟩ x1).setCell ⟨T, 2, none⟩ x2).setCell ⟨T, 3, none⟩ x3).setCell ⟨U, 0, none⟩ y0).setCell ⟨U, 1, none⟩ y1).setCell ⟨U, 2, none⟩ y2).setCell ⟨U, 3, none⟩ y3).cell? ⟨T, 0, none⟩ = some x0 ∧ ((((((((W.setCell ⟨T, 0, none⟩ x0).setCell ⟨T, 1, none⟩ x1).setCell ⟨T, 2, none⟩ x2).setCell ⟨T, 3, none⟩ x3).setCell ⟨U, 0, none⟩ y0).setCell ⟨U, 1, none⟩ y1).setCell ⟨U, 2, none⟩ y2).setCell ⟨U, 3, none⟩ y3).cell? ⟨T, 1, none⟩ = some x1 ∧ ((((((((W.setCell ⟨T, 0, none⟩ x0).setCell ⟨T, 1, none⟩ x1).setCell ⟨T, 2, none⟩ x2).setCell ⟨T, 3, none⟩ x3).setCell ⟨U, 0, none⟩ y0).setCell ⟨U, 1, none⟩ y1).setCell ⟨U, 2, none⟩ y2).setCell ⟨U, 3, none⟩ y3).cell? ⟨T, 2, none⟩ = some x2 ∧ ((((((((W.setCell ⟨T, 0, none⟩ x0).setCell ⟨T, 1, none⟩ x1).setCell ⟨T, 2, none⟩ x2).setCell ⟨T, 3, none⟩ x3).setCell ⟨U, 0, none⟩ y0).setCell ⟨U, 1, none⟩ y1).setCell ⟨U, 2, none⟩ y2).setCell ⟨U, 3, none⟩ y3).cell? ⟨T, 3, none⟩ = some x3 ∧ ((((((((W.setCell ⟨T, 0, none⟩ x0).setCell ⟨T, 1, none⟩ x1).setCell ⟨T, 2, none⟩ x2).setCell ⟨T, 3, none⟩ x3).setCell ⟨U, 0, none⟩ y0).setCell ⟨U, 1, none⟩ y1).setCell ⟨U, 2, none⟩ y2).setCell ⟨U, 3, none⟩ y3).cell? ⟨U, 0, none⟩ = some y0 ∧ ((((((((W.setCell ⟨T, 0, none⟩ x0).setCell ⟨T, 1, none⟩ x1).setCell ⟨T, 2, none⟩ x2).setCell ⟨T, 3, none⟩ x3).setCell ⟨U, 0, none⟩ y0).setCell ⟨U, 1, none⟩ y1).setCell ⟨U, 2, none⟩ y2).setCell ⟨U, 3, none⟩ y3).cell? ⟨U, 1, none⟩ = some y1 ∧ ((((((((W.setCell ⟨T, 0, none⟩ x0).setCell ⟨T, 1, none⟩ x1).setCell ⟨T, 2, none⟩ x2).setCell ⟨T, 3, none⟩ x3).setCell ⟨U, 0, none⟩ y0).setCell ⟨U, 1, none⟩ y1).setCell ⟨U, 2, none⟩ y2).setCell ⟨U, 3, none⟩ y3).cell? ⟨U, 2, none⟩ = some y2 ∧ ((((((((W.setCell ⟨T, 0, none⟩ x0).setCell ⟨T, 1, none⟩ x1).setCell ⟨T, 2, none⟩ x2).setCell ⟨T, 3, none⟩ x3).setCell ⟨U, 0, none⟩ y0).setCell ⟨U, 1, none⟩ y1).setCell ⟨U, 2, none⟩ y2).setCell ⟨U, 3, none⟩ y3).cell? ⟨U, 3, none⟩ = some y3 := by
  refine ⟨?_, ?_, ?_, ?_, ?_, ?_, ?_, ?_⟩
  · rw [World.cell?_setCell_other _ _ _ _ (by intro e; injection e with e1; first | exact hTU e1 | exact hTU e1.symm), World.cell?_setCell_other _ _ _ _ (by intro e; injection e with e1; first | exact hTU e1 | exact hTU e1.symm), World.cell?_setCell_other _ _ _ _ (by intro e; injection e with e1; first | exact hTU e1 | exact hTU e1.symm), World.cell?_setCell_other _ _ _ _ (by intro e; injection e with e1; first | exact hTU e1 | exact hTU e1.symm), World.cell?_setCell_other _ _ _ _ (by simp), World.cell?_setCell_other _ _ _ _ (by simp), World.cell?_setCell_other _ _ _ _ (by simp)]
    refine World.cell?_setCell_same _ _ _ (u := p0) ?_
    exact c0
  · rw [World.cell?_setCell_other _ _ _ _ (by intro e; injection e with e1; first | exact hTU e1 | exact hTU e1.symm), World.cell?_setCell_other _ _ _ _ (by intro e; injection e with e1; first | exact hTU e1 | exact hTU e1.symm), World.cell?_setCell_other _ _ _ _ (by intro e; injection e with e1; first | exact hTU e1 | exact hTU e1.symm), World.cell?_setCell_other _ _ _ _ (by intro e; injection e with e1; first | exact hTU e1 | exact hTU e1.symm), World.cell?_setCell_other _ _ _ _ (by simp), World.cell?_setCell_other _ _ _ _ (by simp)]
    refine World.cell?_setCell_same _ _ _ (u := p1) ?_
    rw [World.cell?_setCell_other _ _ _ _ (by simp)]
    exact c1
  · rw [World.cell?_setCell_other _ _ _ _ (by intro e; injection e with e1; first | exact hTU e1 | exact hTU e1.symm), World.cell?_setCell_other _ _ _ _ (by intro e; injection e with e1; first | exact hTU e1 | exact hTU e1.symm), World.cell?_setCell_other _ _ _ _ (by intro e; injection e with e1; first | exact hTU e1 | exact hTU e1.symm), World.cell?_setCell_other _ _ _ _ (by intro e; injection e with e1; first | exact hTU e1 | exact hTU e1.symm), World.cell?_setCell_other _ _ _ _ (by simp)]
    refine World.cell?_setCell_same _ _ _ (u := p2) ?_
    rw [World.cell?_setCell_other _ _ _ _ (by simp), World.cell?_setCell_other _ _ _ _ (by simp)]
    exact c2
  · rw [World.cell?_setCell_other _ _ _ _ (by intro e; injection e with e1; first | exact hTU e1 | exact hTU e1.symm), World.cell?_setCell_other _ _ _ _ (by intro e; injection e with e1; first | exact hTU e1 | exact hTU e1.symm), World.cell?_setCell_other _ _ _ _ (by intro e; injection e with e1; first | exact hTU e1 | exact hTU e1.symm), World.cell?_setCell_other _ _ _ _ (by intro e; injection e with e1; first | exact hTU e1 | exact hTU e1.symm)]
    refine World.cell?_setCell_same _ _ _ (u := p3) ?_
    rw [World.cell?_setCell_other _ _ _ _ (by simp), World.cell?_setCell_other _ _ _ _ (by simp), World.cell?_setCell_other _ _ _ _ (by simp)]
    exact c3
  · rw [World.cell?_setCell_other _ _ _ _ (by simp), World.cell?_setCell_other _ _ _ _ (by simp), World.cell?_setCell_other _ _ _ _ (by simp)]
    refine World.cell?_setCell_same _ _ _ (u := q0) ?_
    rw [World.cell?_setCell_other _ _ _ _ (by intro e; injection e with e1; first | exact hTU e1 | exact hTU e1.symm), World.cell?_setCell_other _ _ _ _ (by intro e; injection e with e1; first | exact hTU e1 | exact hTU e1.symm), World.cell?_setCell_other _ _ _ _ (by intro e; injection e with e1; first | exact hTU e1 | exact hTU e1.symm), World.cell?_setCell_other _ _ _ _ (by intro e; injection e with e1; first | exact hTU e1 | exact hTU e1.symm)]
    exact d0
  · rw [World.cell?_setCell_other _ _ _ _ (by simp), World.cell?_setCell_other _ _ _ _ (by simp)]
    refine World.cell?_setCell_same _ _ _ (u := q1) ?_
    rw [World.cell?_setCell_other _ _ _ _ (by simp), World.cell?_setCell_other _ _ _ _ (by intro e; injection e with e1; first | exact hTU e1 | exact hTU e1.symm), World.cell?_setCell_other _ _ _ _ (by intro e; injection e with e1; first | exact hTU e1 | exact hTU e1.symm), World.cell?_setCell_other _ _ _ _ (by intro e; injection e with e1; first | exact hTU e1 | exact hTU e1.symm), World.cell?_setCell_other _ _ _ _ (by intro e; injection e with e1; first | exact hTU e1 | exact hTU e1.symm)]
    exact d1
  · rw [World.cell?_setCell_other _ _ _ _ (by simp)]
    refine World.cell?_setCell_same _ _ _ (u := q2) ?_
    rw [World.cell?_setCell_other _ _ _ _ (by simp), World.cell?_setCell_other _ _ _ _ (by simp), World.cell?_setCell_other _ _ _ _ (by intro e; injection e with e1; first | exact hTU e1 | exact hTU e1.symm), World.cell?_setCell_other _ _ _ _ (by intro e; injection e with e1; first | exact hTU e1 | exact hTU e1.symm), World.cell?_setCell_other _ _ _ _ (by intro e; injection e with e1; first | exact hTU e1 | exact hTU e1.symm), World.cell?_setCell_other _ _ _ _ (by intro e; injection e with e1; first | exact hTU e1 | exact hTU e1.symm)]
    exact d2
  · refine World.cell?_setCell_same _ _ _ (u := q3) ?_
    rw [World.cell?_setCell_other _ _ _ _ (by simp), World.cell?_setCell_other _ _ _ _ (by simp), World.cell?_setCell_other _ _ _ _ (by simp), World.cell?_setCell_other _ _ _ _ (by intro e; injection e with e1; first | exact hTU e1 | exact hTU e1.symm), World.cell?_setCell_other _ _ _ _ (by intro e; injection e with e1; first | exact hTU e1 | exact hTU e1.symm), World.cell?_setCell_other _ _ _ _ (by intro e; injection e with e1; first | exact hTU e1 | exact hTU e1.symm), World.cell?_setCell_other _ _ _ _ (by intro e; injection e with e1; first | exact hTU e1 | exact hTU e1.symm)]
    exact d3
set_option maxRecDepth 10000 in
set_option maxHeartbeats 40000000 in
theorem drawAbsIn (a : Option Addr) (len cap : Nat) (z : Nat → Int) (w : World) (hz : ∀ i, 0 ≤ z i ∧ z i ≤ 255) (hl : len ≤ 1048576) (h : Bytes w a len cap z) :
    Calls Try.prog 14 #[.slice a len cap] w fun e w' => ∃ (v1 v2 : Value), StD w.heap.size v1 w' ∧ StD w.heap.size v2 w' ∧ e = .returned (.tuple #[v1, v2]) ∧ Below w.heap.size w w' := by
  have b0 : Below w.heap.size w ((w.alloc (.cells #[.bool false, .slice none 0 0, .int .i64 0, .int .i64 0] 27)).alloc (.cells #[.bool false, .slice none 0 0, .int .i64 0, .int .i64 0] 27)) := ((Below.refl _ _).alloc (Nat.le_refl _) _).alloc (by simp) _
  go_enter Try.func14, Try.ntmps14
  go_wp2_with fail
  refine (openS2 a len cap z _ hz hl (h.kept b0)).mono ?_
  rintro e w1 ⟨m, c, hm, rfl, h1, g1⟩
  have ho := old_of h hm
  have D1 := dr_open44 h1 g1
  obtain ⟨R, hR⟩ : ∃ R, R = ((w.alloc (.cells #[.bool false, .slice none 0 0, .int .i64 0, .int .i64 0] 27)).alloc (.cells #[.bool false, .slice none 0 0, .int .i64 0, .int .i64 0] 27)).heap.size := ⟨_, rfl⟩
  have hR1 : R = w.heap.size + 1 + 1 := by rw [hR]; simp
  rw [← hR1] at D1
  rw [← hR]
  have hRw : w.heap.size ≤ R := by omega
  have hTR : w.heap.size ≠ R := by omega
  have hUR : w.heap.size + 1 ≠ R := by omega
  have hRU : w.heap.size + 1 < R := by omega
  have hRN : R < w.heap.size + 3 := by omega
  clear hR hR1 h1 g1 b0 h hm hz
  obtain ⟨p1, hp1, hr1⟩ := D1.rd
  go_wp2_with fail
  refine (stateD R a m c z p1 12 _ hr1 (by omega) (by omega)).mono ?_
  rintro e w2 ⟨on, aa, g, n, cp, zs, sx, sy, p2, rfl, hn4, _, _, ha, hc, hp2, h2, g2⟩
  have hv0 : StD (w.heap.size + 3) (.agg #[.bool on, .slice aa n cp, .int .i64 sx, .int .i64 sy]) w2 := ⟨on, aa, g, n, cp, zs, sx, sy, rfl, hn4, fun hn => ⟨(ha hn).1, by have := (ha hn).2.1; have := hr1.size; omega, (ha hn).2.2⟩, fun j hj => (hc j hj).1⟩
  clear ha hc
  obtain ⟨g, zl, zh, he0⟩ := hv0.told
  have D2 := Dr.next (Q' := 3000) D1 h2 g2 (by omega)
  have hX2 : w.heap.size + 3 ≤ w2.heap.size := by have := h2.size; omega
  have hv0' : StE (w.heap.size + 3) aa g n zl zh (w2.alloc (.cells #[.bool on, .slice aa n cp, .int .i64 sx, .int .i64 sy] 27)) := he0.next (R := R) (T := R) (U := R) (i := 0) ⟨by simp, fun b hb _ _ _ => Below.heap_alloc _ _ _ hb⟩ hRN hRN hRN
  have D3 := D2.new4q (t := 27) (P0 := Is (.bool on)) (P1 := Is (.slice aa n cp)) (P2 := Is (.int .i64 sx)) (P3 := Is (.int .i64 sy)) rfl rfl rfl rfl
  obtain ⟨X, hX⟩ : ∃ X, X = w2.heap.size := ⟨_, rfl⟩
  have hXN : w.heap.size + 3 ≤ X := by omega
  rw [← hX] at D3
  have hXS : Hid (X = w2.heap.size) := hX
  clear hX hX2 D1 D2 h2 g2 hr1 hv0 he0
  obtain ⟨F, hF⟩ : ∃ F : List Sp, F = [⟨X, 0, Is (.bool on)⟩, ⟨X, 1, Is (.slice aa n cp)⟩, ⟨X, 2, Is (.int .i64 sx)⟩, ⟨X, 3, Is (.int .i64 sy)⟩, ⟨w.heap.size + 1, 0, AnyQ⟩, ⟨w.heap.size + 1, 1, AnyQ⟩, ⟨w.heap.size + 1, 2, AnyQ⟩, ⟨w.heap.size + 1, 3, AnyQ⟩, ⟨w.heap.size, 0, AnyQ⟩, ⟨w.heap.size, 1, AnyQ⟩, ⟨w.heap.size, 2, AnyQ⟩, ⟨w.heap.size, 3, AnyQ⟩] := ⟨_, rfl⟩
  rw [← hF] at D3
  have mT : ∀ i, i < 4 → (⟨w.heap.size, i, AnyQ⟩ : Sp) ∈ F := by
    intro i hi
    rw [hF]
    rcases (show i = 0 ∨ i = 1 ∨ i = 2 ∨ i = 3 by omega) with rfl | rfl | rfl | rfl <;> simp
  have mU : ∀ i, i < 4 → (⟨w.heap.size + 1, i, AnyQ⟩ : Sp) ∈ F := by
    intro i hi
    rw [hF]
    rcases (show i = 0 ∨ i = 1 ∨ i = 2 ∨ i = 3 by omega) with rfl | rfl | rfl | rfl <;> simp
  have mX0 : (⟨X, 0, Is (.bool on)⟩ : Sp) ∈ F := by rw [hF]; simp
  have mX1 : (⟨X, 1, Is (.slice aa n cp)⟩ : Sp) ∈ F := by rw [hF]; simp
  have mX2 : (⟨X, 2, Is (.int .i64 sx)⟩ : Sp) ∈ F := by rw [hF]; simp
  have mX3 : (⟨X, 3, Is (.int .i64 sy)⟩ : Sp) ∈ F := by rw [hF]; simp
  have hFT : ∀ f ∈ F, f.b = w.heap.size → ∀ v, f.P v := by
    intro f hf hb v
    rw [hF] at hf
    simp only [List.mem_cons, List.not_mem_nil, or_false] at hf
    rcases hf with rfl | rfl | rfl | rfl | rfl | rfl | rfl | rfl | rfl | rfl | rfl | rfl <;> first | exact trivial | (exfalso; replace hb : X = w.heap.size := hb; omega)
  have hFU : ∀ f ∈ F, f.b = w.heap.size + 1 → ∀ v, f.P v := by
    intro f hf hb v
    rw [hF] at hf
    simp only [List.mem_cons, List.not_mem_nil, or_false] at hf
    rcases hf with rfl | rfl | rfl | rfl | rfl | rfl | rfl | rfl | rfl | rfl | rfl | rfl <;> first | exact trivial | (exfalso; replace hb : X = w.heap.size + 1 := hb; omega)
  clear hF
  go_wp2_with fail
  rw [← hXS.out]
  clear hXS
  refine (absOkS on aa g 0 n cp zl zh sx sy _ hv0'.at_).mono ?_
  rintro e w3 ⟨rfl, b3⟩
  have D4 := (D3.below b3).more (Q' := 3000) (by omega)
  have hv4 : StE (w.heap.size + 3) aa g n zl zh w3 := hv0'.next (R := R) (T := R) (U := R) (i := 0) ⟨b3.size, fun b hb _ _ _ => b3.block b hb⟩ hRN hRN hRN
  clear D3 hv0' b3
  obtain ⟨ok, hok⟩ : ∃ q, absOk on n zl zh sx sy = q := ⟨_, rfl⟩
  rw [hok]
  cases ok with
  | false =>
    have hS0 := TwoD.start (K := 4000) (n := 5) (s := 3) (t := 4) (T := w.heap.size) (U := w.heap.size + 1) (D4.more (Q' := 3102) (by omega)) hv4 hRw (by omega) hRN
    clear D4 hv4
    go_wp2_with fail
    refine region_inv3 [(0, 21), (1, 22), (2, 23)]
      (fun j v W => match j with
        | 0 => Is (.pointer (some ⟨R, 0, none⟩)) v
        | 1 => StD (w.heap.size + 3) v W
        | 2 => Is (.agg #[.bool on, .slice aa n cp, .int .i64 sx, .int .i64 sy]) v
        | _ => True)
      (fun L W => TwoD w R a m c z 3102 4000 5 F (w.heap.size + 3) w.heap.size (w.heap.size + 1) aa g n zl zh 3 4 L W) (K3 R w.heap.size (w.heap.size + 1))
      (by kernel_rfl) (by kernel_rfl) (by kernel_rfl) (by kernel_rfl) (by kernel_rfl) rfl hS0 ?_ ?_ ?_
    · intro i j v W W' hji hφ hT
      match j, hφ with
      | 0, hφ => exact hφ
      | 1, hφ => exact hφ.next hT hRN (by omega) (by omega)
      | 2, hφ => exact hφ
      | 3, hφ => exact hφ
      | 4, hφ => exact hφ
      | _ + 5, _ => trivial
    · intro i L vals W hi' hφ hS hL hd
      have hi2 : i < 5 := hi'
      clear hi'
      have hbd := DS.bd (K := 4000) (n := 5) (L := L)
      obtain ⟨p', hp', hr⟩ := hS.ds.rd
      have hrs := hr.size
      rcases (show i = 0 ∨ i = 1 ∨ i = 2 ∨ i = 3 ∨ i = 4 by omega) with rfl | rfl | rfl | rfl | rfl
      · refine wpAt_of rfl rfl ?_
        simp only [frOf, Act.put]
        go_wp2_with fail
        first | exact ⟨trivial, rfl, K3.refl _ _ _ _ _, hS.pure hL (by decide) (by decide) (by decide)⟩ | exact ⟨rfl, K3.refl _ _ _ _ _, hS.pure hL (by decide) (by decide) (by decide)⟩
      · have k0 : vals 0 = .pointer (some ⟨R, 0, none⟩) := hφ 0 (hd 0 (by decide))
        refine wpAt_of rfl rfl ?_
        simp only [frOf, Act.put]
        go_wp2_with fail
        refine (stateD R a m c z p' 12 _ hr (by omega) (by omega)).mono ?_
        rintro e W' ⟨on1, a1, g1, n1, cp1, zs1, x1, y1, p2, rfl, hn1, _, _, ha1, hc1, hp2, hR', g'⟩
        go_wp2_with fail
        have hv : StD (w.heap.size + 3) (.agg #[.bool on1, .slice a1 n1 cp1, .int .i64 x1, .int .i64 y1]) W' := ⟨on1, a1, g1, n1, cp1, zs1, x1, y1, rfl, hn1, fun hn => ⟨(ha1 hn).1, by have := (ha1 hn).2.1; have := hS.ds.grown.size; omega, (ha1 hn).2.2⟩, fun j hj => (hc1 j hj).1⟩
        have hS' := hS.call hL (by decide) (by decide) (by decide) hRN (by omega) (by omega) hTR hUR hR' g' (by omega)
        first | exact ⟨trivial, hv, K3.of g', hS'⟩ | exact ⟨hv, K3.of g', hS'⟩
      · obtain ⟨_, c0, rfl⟩ := Dr.has hS.ds (mX0)
        obtain ⟨_, c1, rfl⟩ := Dr.has hS.ds (mX1)
        obtain ⟨_, c2, rfl⟩ := Dr.has hS.ds (mX2)
        obtain ⟨_, c3, rfl⟩ := Dr.has hS.ds (mX3)
        refine wpAt_of rfl rfl ?_
        simp only [frOf, Act.put]
        go_wp2_with fail
        first | exact ⟨trivial, rfl, K3.refl _ _ _ _ _, hS.pure hL (by decide) (by decide) (by decide)⟩ | exact ⟨rfl, K3.refl _ _ _ _ _, hS.pure hL (by decide) (by decide) (by decide)⟩
      · obtain ⟨on1, a1, g1, n1, cp1, zs1, x1, y1, k1, hn1, ha1, hc1⟩ := (hφ 1 (hd 1 (by decide)) : StD (w.heap.size + 3) (vals 1) W)
        have hv1 : StD (w.heap.size + 3) (.agg #[.bool on1, .slice a1 n1 cp1, .int .i64 x1, .int .i64 y1]) W := ⟨on1, a1, g1, n1, cp1, zs1, x1, y1, rfl, hn1, ha1, hc1⟩
        obtain ⟨q0, c0, _⟩ := Dr.has hS.ds (mT 0 (by decide))
        obtain ⟨q1, c1, _⟩ := Dr.has hS.ds (mT 1 (by decide))
        obtain ⟨q2, c2, _⟩ := Dr.has hS.ds (mT 2 (by decide))
        obtain ⟨q3, c3, _⟩ := Dr.has hS.ds (mT 3 (by decide))
        have f0 := Dr.free hS.ds (mT 0 (by decide))
        have f1 := Dr.free hS.ds (mT 1 (by decide))
        have f2 := Dr.free hS.ds (mT 2 (by decide))
        have f3 := Dr.free hS.ds (mT 3 (by decide))
        refine wpAt_none rfl rfl ?_
        simp only [frOf, Act.put]
        go_wp2_with fail
        have hS' := hS.stoT hL (by decide) (by decide) hRN (by omega) (by omega) hTR (by omega) ho (Nat.le_refl _) hFT c0 c1 c2 c3 hv1
        first | exact ⟨trivial, trivial, (k3s K3.set4), hS'⟩ | exact ⟨trivial, (k3s K3.set4), hS'⟩ | exact ⟨(k3s K3.set4), hS'⟩
      · have k2 : vals 2 = .agg #[.bool on, .slice aa n cp, .int .i64 sx, .int .i64 sy] := hφ 2 (hd 2 (by decide))
        have hv1 := hS.st.std on cp sx sy
        obtain ⟨q0, c0, _⟩ := Dr.has hS.ds (mU 0 (by decide))
        obtain ⟨q1, c1, _⟩ := Dr.has hS.ds (mU 1 (by decide))
        obtain ⟨q2, c2, _⟩ := Dr.has hS.ds (mU 2 (by decide))
        obtain ⟨q3, c3, _⟩ := Dr.has hS.ds (mU 3 (by decide))
        have f0 := Dr.free hS.ds (mU 0 (by decide))
        have f1 := Dr.free hS.ds (mU 1 (by decide))
        have f2 := Dr.free hS.ds (mU 2 (by decide))
        have f3 := Dr.free hS.ds (mU 3 (by decide))
        refine wpAt_none rfl rfl ?_
        simp only [frOf, Act.put]
        go_wp2_with fail
        have hS' := (hS.swap.stoT hL (by decide) (by decide) hRN (by omega) (by omega) hUR (by omega) ho (by omega) hFU c0 c1 c2 c3 hv1).swap
        first | exact ⟨trivial, trivial, K3.set4, hS'⟩ | exact ⟨trivial, K3.set4, hS'⟩ | exact ⟨K3.set4, hS'⟩
    · intro L vals W hall hφ hS
      have hD := hS.ds.done
      obtain ⟨on1, s1, x1, y1, t0, t1, t2, t3, hv1⟩ := hS.c1 (hall 3 (by decide))
      obtain ⟨on2, s2, x2, y2, u0, u1, u2, u3, hv2⟩ := hS.c2 (hall 4 (by decide))
      clear hS hφ
      simp only [frOf, Act.put, List.setIfInBounds_toArray, List.set_cons_succ, List.set_cons_zero]
      have bE := hD.below0 hRw
      go_wp2_with fail
      exact bodyPost_ret (v := .tuple #[.agg #[.bool on1, s1, x1, y1], .agg #[.bool on2, s2, x2, y2]]) (by simp [results, Try.results14, go_sem, t0, t1, t2, t3, u0, u1, u2, u3]) rfl ⟨_, _, hv1.base (by omega), hv2.base (by omega), rfl, bE⟩
  | true =>
    obtain ⟨p4, hp4, hr4⟩ := D4.rd
    go_wp2_with fail
    refine (pick R a m c z p4 2 _ hr4 (by omega) (by omega) (by omega)).mono ?_
    rintro e w5 ⟨x, hx, hx', rfl, h5, g5⟩
    have D5 := D4.next (Q' := 3102) h5 g5 (by omega)
    have hv5 : StE (w.heap.size + 3) aa g n zl zh w5 := hv4.next (R := R) (T := R) (U := R) (i := 0) (K3.of g5) hRN hRN hRN
    clear D4 hr4 hv4 h5 g5
    obtain rfl | rfl : x = 0 ∨ x = 1 := by omega
    · have hS0 := TwoD.start (K := 4000) (n := 6) (s := 4) (t := 5) (T := w.heap.size) (U := w.heap.size + 1) D5 hv5 hRw (by omega) hRN
      clear D5 hv5
      go_wp2_with fail
      refine region_inv3 [(0, 17), (1, 18), (2, 19), (3, 20)]
        (fun j v W => match j with
          | 0 => Is (.pointer (some ⟨R, 0, none⟩)) v
          | 1 => Is (.agg #[.bool on, .slice aa n cp, .int .i64 sx, .int .i64 sy]) v
          | 2 => StD (w.heap.size + 3) v W
          | 3 => Is (.agg #[.bool on, .slice aa n cp, .int .i64 sx, .int .i64 sy]) v
          | _ => True)
        (fun L W => TwoD w R a m c z 3102 4000 6 F (w.heap.size + 3) w.heap.size (w.heap.size + 1) aa g n zl zh 4 5 L W) (K3 R w.heap.size (w.heap.size + 1))
        (by kernel_rfl) (by kernel_rfl) (by kernel_rfl) (by kernel_rfl) (by kernel_rfl) rfl hS0 ?_ ?_ ?_
      · intro i j v W W' hji hφ hT
        match j, hφ with
        | 0, hφ => exact hφ
        | 1, hφ => exact hφ
        | 2, hφ => exact hφ.next hT hRN (by omega) (by omega)
        | 3, hφ => exact hφ
        | 4, hφ => exact hφ
        | 5, hφ => exact hφ
        | _ + 6, _ => trivial
      · intro i L vals W hi' hφ hS hL hd
        have hi2 : i < 6 := hi'
        clear hi'
        have hbd := DS.bd (K := 4000) (n := 6) (L := L)
        obtain ⟨p', hp', hr⟩ := hS.ds.rd
        have hrs := hr.size
        rcases (show i = 0 ∨ i = 1 ∨ i = 2 ∨ i = 3 ∨ i = 4 ∨ i = 5 by omega) with rfl | rfl | rfl | rfl | rfl | rfl
        · refine wpAt_of rfl rfl ?_
          simp only [frOf, Act.put]
          go_wp2_with fail
          first | exact ⟨trivial, rfl, K3.refl _ _ _ _ _, hS.pure hL (by decide) (by decide) (by decide)⟩ | exact ⟨rfl, K3.refl _ _ _ _ _, hS.pure hL (by decide) (by decide) (by decide)⟩
        · obtain ⟨_, c0, rfl⟩ := Dr.has hS.ds (mX0)
          obtain ⟨_, c1, rfl⟩ := Dr.has hS.ds (mX1)
          obtain ⟨_, c2, rfl⟩ := Dr.has hS.ds (mX2)
          obtain ⟨_, c3, rfl⟩ := Dr.has hS.ds (mX3)
          refine wpAt_of rfl rfl ?_
          simp only [frOf, Act.put]
          go_wp2_with fail
          first | exact ⟨trivial, rfl, K3.refl _ _ _ _ _, hS.pure hL (by decide) (by decide) (by decide)⟩ | exact ⟨rfl, K3.refl _ _ _ _ _, hS.pure hL (by decide) (by decide) (by decide)⟩
        · have k0 : vals 0 = .pointer (some ⟨R, 0, none⟩) := hφ 0 (hd 0 (by decide))
          have k1 : vals 1 = .agg #[.bool on, .slice aa n cp, .int .i64 sx, .int .i64 sy] := hφ 1 (hd 1 (by decide))
          refine wpAt_of rfl rfl ?_
          simp only [frOf, Act.put]
          go_wp2_with fail
          refine (withinD R a m c z p' on aa g 0 n cp zl zh sx sy _ hr (by omega) hS.st.at_ (fun hn => by have := hS.st.own hn; omega) hok).mono ?_
          rintro e W' ⟨on1, a1, g1, n1, cp1, zs1, x1, y1, p2, rfl, hn1, _, _, ha1, hc1, hp2, hR', g'⟩
          go_wp2_with fail
          have hv : StD (w.heap.size + 3) (.agg #[.bool on1, .slice a1 n1 cp1, .int .i64 x1, .int .i64 y1]) W' := ⟨on1, a1, g1, n1, cp1, zs1, x1, y1, rfl, hn1, fun hn => ⟨(ha1 hn).1, by have := (ha1 hn).2.1; have := hS.ds.grown.size; omega, (ha1 hn).2.2⟩, fun j hj => (hc1 j hj).1⟩
          have hS' := hS.call hL (by decide) (by decide) (by decide) hRN (by omega) (by omega) hTR hUR hR' g' (by omega)
          first | exact ⟨trivial, hv, K3.of g', hS'⟩ | exact ⟨hv, K3.of g', hS'⟩
        · obtain ⟨_, c0, rfl⟩ := Dr.has hS.ds (mX0)
          obtain ⟨_, c1, rfl⟩ := Dr.has hS.ds (mX1)
          obtain ⟨_, c2, rfl⟩ := Dr.has hS.ds (mX2)
          obtain ⟨_, c3, rfl⟩ := Dr.has hS.ds (mX3)
          refine wpAt_of rfl rfl ?_
          simp only [frOf, Act.put]
          go_wp2_with fail
          first | exact ⟨trivial, rfl, K3.refl _ _ _ _ _, hS.pure hL (by decide) (by decide) (by decide)⟩ | exact ⟨rfl, K3.refl _ _ _ _ _, hS.pure hL (by decide) (by decide) (by decide)⟩
        · obtain ⟨on1, a1, g1, n1, cp1, zs1, x1, y1, k1, hn1, ha1, hc1⟩ := (hφ 2 (hd 2 (by decide)) : StD (w.heap.size + 3) (vals 2) W)
          have hv1 : StD (w.heap.size + 3) (.agg #[.bool on1, .slice a1 n1 cp1, .int .i64 x1, .int .i64 y1]) W := ⟨on1, a1, g1, n1, cp1, zs1, x1, y1, rfl, hn1, ha1, hc1⟩
          obtain ⟨q0, c0, _⟩ := Dr.has hS.ds (mT 0 (by decide))
          obtain ⟨q1, c1, _⟩ := Dr.has hS.ds (mT 1 (by decide))
          obtain ⟨q2, c2, _⟩ := Dr.has hS.ds (mT 2 (by decide))
          obtain ⟨q3, c3, _⟩ := Dr.has hS.ds (mT 3 (by decide))
          have f0 := Dr.free hS.ds (mT 0 (by decide))
          have f1 := Dr.free hS.ds (mT 1 (by decide))
          have f2 := Dr.free hS.ds (mT 2 (by decide))
          have f3 := Dr.free hS.ds (mT 3 (by decide))
          refine wpAt_none rfl rfl ?_
          simp only [frOf, Act.put]
          go_wp2_with fail
          have hS' := hS.stoT hL (by decide) (by decide) hRN (by omega) (by omega) hTR (by omega) ho (Nat.le_refl _) hFT c0 c1 c2 c3 hv1
          first | exact ⟨trivial, trivial, (k3s K3.set4), hS'⟩ | exact ⟨trivial, (k3s K3.set4), hS'⟩ | exact ⟨(k3s K3.set4), hS'⟩
        · have k3 : vals 3 = .agg #[.bool on, .slice aa n cp, .int .i64 sx, .int .i64 sy] := hφ 3 (hd 3 (by decide))
          have hv1 := hS.st.std on cp sx sy
          obtain ⟨q0, c0, _⟩ := Dr.has hS.ds (mU 0 (by decide))
          obtain ⟨q1, c1, _⟩ := Dr.has hS.ds (mU 1 (by decide))
          obtain ⟨q2, c2, _⟩ := Dr.has hS.ds (mU 2 (by decide))
          obtain ⟨q3, c3, _⟩ := Dr.has hS.ds (mU 3 (by decide))
          have f0 := Dr.free hS.ds (mU 0 (by decide))
          have f1 := Dr.free hS.ds (mU 1 (by decide))
          have f2 := Dr.free hS.ds (mU 2 (by decide))
          have f3 := Dr.free hS.ds (mU 3 (by decide))
          refine wpAt_none rfl rfl ?_
          simp only [frOf, Act.put]
          go_wp2_with fail
          have hS' := (hS.swap.stoT hL (by decide) (by decide) hRN (by omega) (by omega) hUR (by omega) ho (by omega) hFU c0 c1 c2 c3 hv1).swap
          first | exact ⟨trivial, trivial, K3.set4, hS'⟩ | exact ⟨trivial, K3.set4, hS'⟩ | exact ⟨K3.set4, hS'⟩
      · intro L vals W hall hφ hS
        have hD := hS.ds.done
        obtain ⟨on1, s1, x1, y1, t0, t1, t2, t3, hv1⟩ := hS.c1 (hall 4 (by decide))
        obtain ⟨on2, s2, x2, y2, u0, u1, u2, u3, hv2⟩ := hS.c2 (hall 5 (by decide))
        clear hS hφ
        simp only [frOf, Act.put, List.setIfInBounds_toArray, List.set_cons_succ, List.set_cons_zero]
        have bE := hD.below0 hRw
        go_wp2_with fail
        exact bodyPost_ret (v := .tuple #[.agg #[.bool on1, s1, x1, y1], .agg #[.bool on2, s2, x2, y2]]) (by simp [results, Try.results14, go_sem, t0, t1, t2, t3, u0, u1, u2, u3]) rfl ⟨_, _, hv1.base (by omega), hv2.base (by omega), rfl, bE⟩
    · have hS0 := TwoD.start (K := 4000) (n := 5) (s := 3) (t := 4) (T := w.heap.size) (U := w.heap.size + 1) D5 hv5 hRw (by omega) hRN
      clear D5 hv5
      go_wp2_with fail
      refine region_inv3 [(0, 21), (1, 22), (2, 23)]
        (fun j v W => match j with
          | 0 => Is (.pointer (some ⟨R, 0, none⟩)) v
          | 1 => StD (w.heap.size + 3) v W
          | 2 => Is (.agg #[.bool on, .slice aa n cp, .int .i64 sx, .int .i64 sy]) v
          | _ => True)
        (fun L W => TwoD w R a m c z 3102 4000 5 F (w.heap.size + 3) w.heap.size (w.heap.size + 1) aa g n zl zh 3 4 L W) (K3 R w.heap.size (w.heap.size + 1))
        (by kernel_rfl) (by kernel_rfl) (by kernel_rfl) (by kernel_rfl) (by kernel_rfl) rfl hS0 ?_ ?_ ?_
      · intro i j v W W' hji hφ hT
        match j, hφ with
        | 0, hφ => exact hφ
        | 1, hφ => exact hφ.next hT hRN (by omega) (by omega)
        | 2, hφ => exact hφ
        | 3, hφ => exact hφ
        | 4, hφ => exact hφ
        | _ + 5, _ => trivial
      · intro i L vals W hi' hφ hS hL hd
        have hi2 : i < 5 := hi'
        clear hi'
        have hbd := DS.bd (K := 4000) (n := 5) (L := L)
        obtain ⟨p', hp', hr⟩ := hS.ds.rd
        have hrs := hr.size
        rcases (show i = 0 ∨ i = 1 ∨ i = 2 ∨ i = 3 ∨ i = 4 by omega) with rfl | rfl | rfl | rfl | rfl
        · refine wpAt_of rfl rfl ?_
          simp only [frOf, Act.put]
          go_wp2_with fail
          first | exact ⟨trivial, rfl, K3.refl _ _ _ _ _, hS.pure hL (by decide) (by decide) (by decide)⟩ | exact ⟨rfl, K3.refl _ _ _ _ _, hS.pure hL (by decide) (by decide) (by decide)⟩
        · have k0 : vals 0 = .pointer (some ⟨R, 0, none⟩) := hφ 0 (hd 0 (by decide))
          refine wpAt_of rfl rfl ?_
          simp only [frOf, Act.put]
          go_wp2_with fail
          refine (stateD R a m c z p' 12 _ hr (by omega) (by omega)).mono ?_
          rintro e W' ⟨on1, a1, g1, n1, cp1, zs1, x1, y1, p2, rfl, hn1, _, _, ha1, hc1, hp2, hR', g'⟩
          go_wp2_with fail
          have hv : StD (w.heap.size + 3) (.agg #[.bool on1, .slice a1 n1 cp1, .int .i64 x1, .int .i64 y1]) W' := ⟨on1, a1, g1, n1, cp1, zs1, x1, y1, rfl, hn1, fun hn => ⟨(ha1 hn).1, by have := (ha1 hn).2.1; have := hS.ds.grown.size; omega, (ha1 hn).2.2⟩, fun j hj => (hc1 j hj).1⟩
          have hS' := hS.call hL (by decide) (by decide) (by decide) hRN (by omega) (by omega) hTR hUR hR' g' (by omega)
          first | exact ⟨trivial, hv, K3.of g', hS'⟩ | exact ⟨hv, K3.of g', hS'⟩
        · obtain ⟨_, c0, rfl⟩ := Dr.has hS.ds (mX0)
          obtain ⟨_, c1, rfl⟩ := Dr.has hS.ds (mX1)
          obtain ⟨_, c2, rfl⟩ := Dr.has hS.ds (mX2)
          obtain ⟨_, c3, rfl⟩ := Dr.has hS.ds (mX3)
          refine wpAt_of rfl rfl ?_
          simp only [frOf, Act.put]
          go_wp2_with fail
          first | exact ⟨trivial, rfl, K3.refl _ _ _ _ _, hS.pure hL (by decide) (by decide) (by decide)⟩ | exact ⟨rfl, K3.refl _ _ _ _ _, hS.pure hL (by decide) (by decide) (by decide)⟩
        · obtain ⟨on1, a1, g1, n1, cp1, zs1, x1, y1, k1, hn1, ha1, hc1⟩ := (hφ 1 (hd 1 (by decide)) : StD (w.heap.size + 3) (vals 1) W)
          have hv1 : StD (w.heap.size + 3) (.agg #[.bool on1, .slice a1 n1 cp1, .int .i64 x1, .int .i64 y1]) W := ⟨on1, a1, g1, n1, cp1, zs1, x1, y1, rfl, hn1, ha1, hc1⟩
          obtain ⟨q0, c0, _⟩ := Dr.has hS.ds (mT 0 (by decide))
          obtain ⟨q1, c1, _⟩ := Dr.has hS.ds (mT 1 (by decide))
          obtain ⟨q2, c2, _⟩ := Dr.has hS.ds (mT 2 (by decide))
          obtain ⟨q3, c3, _⟩ := Dr.has hS.ds (mT 3 (by decide))
          have f0 := Dr.free hS.ds (mT 0 (by decide))
          have f1 := Dr.free hS.ds (mT 1 (by decide))
          have f2 := Dr.free hS.ds (mT 2 (by decide))
          have f3 := Dr.free hS.ds (mT 3 (by decide))
          refine wpAt_none rfl rfl ?_
          simp only [frOf, Act.put]
          go_wp2_with fail
          have hS' := hS.stoT hL (by decide) (by decide) hRN (by omega) (by omega) hTR (by omega) ho (Nat.le_refl _) hFT c0 c1 c2 c3 hv1
          first | exact ⟨trivial, trivial, (k3s K3.set4), hS'⟩ | exact ⟨trivial, (k3s K3.set4), hS'⟩ | exact ⟨(k3s K3.set4), hS'⟩
        · have k2 : vals 2 = .agg #[.bool on, .slice aa n cp, .int .i64 sx, .int .i64 sy] := hφ 2 (hd 2 (by decide))
          have hv1 := hS.st.std on cp sx sy
          obtain ⟨q0, c0, _⟩ := Dr.has hS.ds (mU 0 (by decide))
          obtain ⟨q1, c1, _⟩ := Dr.has hS.ds (mU 1 (by decide))
          obtain ⟨q2, c2, _⟩ := Dr.has hS.ds (mU 2 (by decide))
          obtain ⟨q3, c3, _⟩ := Dr.has hS.ds (mU 3 (by decide))
          have f0 := Dr.free hS.ds (mU 0 (by decide))
          have f1 := Dr.free hS.ds (mU 1 (by decide))
          have f2 := Dr.free hS.ds (mU 2 (by decide))
          have f3 := Dr.free hS.ds (mU 3 (by decide))
          refine wpAt_none rfl rfl ?_
          simp only [frOf, Act.put]
          go_wp2_with fail
          have hS' := (hS.swap.stoT hL (by decide) (by decide) hRN (by omega) (by omega) hUR (by omega) ho (by omega) hFU c0 c1 c2 c3 hv1).swap
          first | exact ⟨trivial, trivial, K3.set4, hS'⟩ | exact ⟨trivial, K3.set4, hS'⟩ | exact ⟨K3.set4, hS'⟩
      · intro L vals W hall hφ hS
        have hD := hS.ds.done
        obtain ⟨on1, s1, x1, y1, t0, t1, t2, t3, hv1⟩ := hS.c1 (hall 3 (by decide))
        obtain ⟨on2, s2, x2, y2, u0, u1, u2, u3, hv2⟩ := hS.c2 (hall 4 (by decide))
        clear hS hφ
        simp only [frOf, Act.put, List.setIfInBounds_toArray, List.set_cons_succ, List.set_cons_zero]
        have bE := hD.below0 hRw
        go_wp2_with fail
        exact bodyPost_ret (v := .tuple #[.agg #[.bool on1, s1, x1, y1], .agg #[.bool on2, s2, x2, y2]]) (by simp [results, Try.results14, go_sem, t0, t1, t2, t3, u0, u1, u2, u3]) rfl ⟨_, _, hv1.base (by omega), hv2.base (by omega), rfl, bE⟩
set_option maxRecDepth 10000 in
set_option maxHeartbeats 8000000 in
theorem drawAbsJoin (a : Option Addr) (len cap : Nat) (z : Nat → Int) (w : World) (hz : ∀ i, 0 ≤ z i ∧ z i ≤ 255) (hl : len ≤ 1048576) (h : Bytes w a len cap z) :
    Calls Try.prog 6 #[.slice a len cap] w fun e w' => ∃ (v1 v2 : Value), StD w.heap.size v1 w' ∧ StD w.heap.size v2 w' ∧ e = .returned (.tuple #[v1, v2]) ∧ Below w.heap.size w w' := by
  have b0 : Below w.heap.size w ((w.alloc (.cells #[.bool false, .slice none 0 0, .int .i64 0, .int .i64 0] 27)).alloc (.cells #[.bool false, .slice none 0 0, .int .i64 0, .int .i64 0] 27)) := ((Below.refl _ _).alloc (Nat.le_refl _) _).alloc (by simp) _
  have H : HeldL w [(w.heap.size + 1, [Value.bool false, .slice none 0 0, .int .i64 0, .int .i64 0]), (w.heap.size, [Value.bool false, .slice none 0 0, .int .i64 0, .int .i64 0])] ((w.alloc (.cells #[.bool false, .slice none 0 0, .int .i64 0, .int .i64 0] 27)).alloc (.cells #[.bool false, .slice none 0 0, .int .i64 0, .int .i64 0] 27)) := by
    have e1 : w.heap.size + 1 = (w.alloc (.cells #[.bool false, .slice none 0 0, .int .i64 0, .int .i64 0] 27)).heap.size := by simp
    rw [e1]
    exact HeldL.newL (vs := [Value.bool false, .slice none 0 0, .int .i64 0, .int .i64 0]) (HeldL.newL (vs := [Value.bool false, .slice none 0 0, .int .i64 0, .int .i64 0]) (HeldL.nil w))
  go_enter Try.func6, Try.ntmps6
  go_wp2_with fail
  refine (drawAbsIn a len cap z _ hz hl (h.kept b0)).mono ?_
  rintro e w1 ⟨v1, v2, d1, d2, rfl, b1⟩
  replace d1 : StD (w.heap.size + 2) v1 w1 := d1.base (by simp)
  replace d2 : StD (w.heap.size + 2) v2 w1 := d2.base (by simp)
  have H1 := H.next b1
  clear H b0 b1 h
  obtain ⟨Lb, hLb⟩ : ∃ L, L = [(w.heap.size + 1, [Value.bool false, .slice none 0 0, .int .i64 0, .int .i64 0]), (w.heap.size, [Value.bool false, .slice none 0 0, .int .i64 0, .int .i64 0])] := ⟨_, rfl⟩
  have mT : (w.heap.size, [Value.bool false, .slice none 0 0, .int .i64 0, .int .i64 0]) ∈ Lb := by rw [hLb]; simp
  have mU : (w.heap.size + 1, [Value.bool false, .slice none 0 0, .int .i64 0, .int .i64 0]) ∈ Lb := by rw [hLb]; simp
  rw [← hLb] at H1
  clear hLb
  obtain ⟨on1, a1, g1, n1, cp1, zs1, x1, y1, rfl, hn1, ha1, hc1⟩ := d1
  obtain ⟨on2, a2, g2, n2, cp2, zs2, x2, y2, rfl, hn2, ha2, hc2⟩ := d2
  have dd1 : StD (w.heap.size + 2) (.agg #[.bool on1, .slice a1 n1 cp1, .int .i64 x1, .int .i64 y1]) w1 := ⟨on1, a1, g1, n1, cp1, zs1, x1, y1, rfl, hn1, ha1, hc1⟩
  have dd2 : StD (w.heap.size + 2) (.agg #[.bool on2, .slice a2 n2 cp2, .int .i64 x2, .int .i64 y2]) w1 := ⟨on2, a2, g2, n2, cp2, zs2, x2, y2, rfl, hn2, ha2, hc2⟩
  have kT : K3 (w.heap.size + 1) (w.heap.size + 1) w.heap.size 0 w1 ((((w1.setCell ⟨w.heap.size, 0, none⟩ (.bool on1)).setCell ⟨w.heap.size, 1, none⟩ (.slice a1 n1 cp1)).setCell ⟨w.heap.size, 2, none⟩ (.int .i64 x1)).setCell ⟨w.heap.size, 3, none⟩ (.int .i64 y1)) := K3.set4
  have kU : K3 w.heap.size w.heap.size (w.heap.size + 1) 0 ((((w1.setCell ⟨w.heap.size, 0, none⟩ (.bool on1)).setCell ⟨w.heap.size, 1, none⟩ (.slice a1 n1 cp1)).setCell ⟨w.heap.size, 2, none⟩ (.int .i64 x1)).setCell ⟨w.heap.size, 3, none⟩ (.int .i64 y1)) ((((((((w1.setCell ⟨w.heap.size, 0, none⟩ (.bool on1)).setCell ⟨w.heap.size, 1, none⟩ (.slice a1 n1 cp1)).setCell ⟨w.heap.size, 2, none⟩ (.int .i64 x1)).setCell ⟨w.heap.size, 3, none⟩ (.int .i64 y1)).setCell ⟨w.heap.size + 1, 0, none⟩ (.bool on2)).setCell ⟨w.heap.size + 1, 1, none⟩ (.slice a2 n2 cp2)).setCell ⟨w.heap.size + 1, 2, none⟩ (.int .i64 x2)).setCell ⟨w.heap.size + 1, 3, none⟩ (.int .i64 y2)) := K3.set4
  have r1 := ((dd1.next kT (by omega) (by omega) (by omega)).next kU (by omega) (by omega) (by omega)).base (M := w.heap.size) (by omega)
  have r2 := ((dd2.next kT (by omega) (by omega) (by omega)).next kU (by omega) (by omega) (by omega)).base (M := w.heap.size) (by omega)
  have bE : Below w.heap.size w ((((((((w1.setCell ⟨w.heap.size, 0, none⟩ (.bool on1)).setCell ⟨w.heap.size, 1, none⟩ (.slice a1 n1 cp1)).setCell ⟨w.heap.size, 2, none⟩ (.int .i64 x1)).setCell ⟨w.heap.size, 3, none⟩ (.int .i64 y1)).setCell ⟨w.heap.size + 1, 0, none⟩ (.bool on2)).setCell ⟨w.heap.size + 1, 1, none⟩ (.slice a2 n2 cp2)).setCell ⟨w.heap.size + 1, 2, none⟩ (.int .i64 x2)).setCell ⟨w.heap.size + 1, 3, none⟩ (.int .i64 y2)) := setAll_below (Nat.le_succ _) [.bool on2, .slice a2 n2 cp2, .int .i64 x2, .int .i64 y2] 0 _ (setAll_below (Nat.le_refl _) [.bool on1, .slice a1 n1 cp1, .int .i64 x1, .int .i64 y1] 0 w1 H1.below)
  have c0 := H1.cell mT (i := 0) rfl
  have d0 := H1.cell mU (i := 0) rfl
  have f0 := H1.free _ mT 0
  have g0' := H1.free _ mU 0
  have c1 := H1.cell mT (i := 1) rfl
  have d1 := H1.cell mU (i := 1) rfl
  have f1 := H1.free _ mT 1
  have g1' := H1.free _ mU 1
  have c2 := H1.cell mT (i := 2) rfl
  have d2 := H1.cell mU (i := 2) rfl
  have f2 := H1.free _ mT 2
  have g2' := H1.free _ mU 2
  have c3 := H1.cell mT (i := 3) rfl
  have d3 := H1.cell mU (i := 3) rfl
  have f3 := H1.free _ mT 3
  have g3' := H1.free _ mU 3
  dsimp only at c0 c1 c2 c3 d0 d1 d2 d3 f0 f1 f2 f3 g0' g1' g2' g3'
  obtain ⟨s0, s1, s2, s3, t0, t1, t2, t3⟩ := set44 (T := w.heap.size) (U := w.heap.size + 1) (by omega) c0 c1 c2 c3 d0 d1 d2 d3 (.bool on1) (.slice a1 n1 cp1) (.int .i64 x1) (.int .i64 y1) (.bool on2) (.slice a2 n2 cp2) (.int .i64 x2) (.int .i64 y2)
  clear H1 dd1 dd2 kT kU ha1 hc1 ha2 hc2
  go_wp2_with fail
  exact bodyPost_ret (v := .tuple #[.agg #[.bool on1, .slice a1 n1 cp1, .int .i64 x1, .int .i64 y1], .agg #[.bool on2, .slice a2 n2 cp2, .int .i64 x2, .int .i64 y2]]) (by simp [results, Try.results6, go_sem, s0, s1, s2, s3, t0, t1, t2, t3]) rfl ⟨_, _, r1, r2, rfl, bE⟩
end Go.Proofs.Ytiehokibfdaleaa
