/- A drawn state, variables and cells: DrawAbsHas. -/
import Derived.Test.YtiehokibfdaleaaG13
import Derived.Test.YtiehokibfdaleaaG10
import Derived.Deep.DeepCutAuto
import Derived.Deep.CutBlock
namespace Go.Proofs.Ytiehokibfdaleaa
open Go.ChangeShapes Go.WideShapes Go.ChangeAt Go.RowKit
set_option linter.unusedVariables false

/-- A list of three to five numbers, in memory at or behind N. -/
def Lt (N : Nat) (v : Value) (W : World) : Prop := ∃ (g n cap : Nat) (zs : Nat → Int), v = .slice (some ⟨g, 0, none⟩) n cap ∧ 3 ≤ n ∧ n ≤ 5 ∧ N ≤ g ∧ g < W.heap.size ∧ ∀ k, k < n → W.cell? ⟨g, k, none⟩ = some (.int .i64 (zs k))
theorem Lt.base {N M : Nat} {v : Value} {W : World} (h : Lt N v W) (hM : M ≤ N) : Lt M v W := by
  obtain ⟨g, n, cap, zs, h1, h2, h3, h4, h5, h6⟩ := h
  exact ⟨g, n, cap, zs, h1, h2, h3, by omega, h5, h6⟩
theorem Lt.next {N R T i : Nat} {v : Value} {W W' : World} (h : Lt N v W) (k : K3 R T T i W W') (hR : R < N) (hT : T < N) : Lt N v W' := by
  obtain ⟨g, n, cap, zs, h1, h2, h3, h4, h5, h6⟩ := h
  exact ⟨g, n, cap, zs, h1, h2, h3, h4, Nat.lt_of_lt_of_le h5 k.1, fun j hj => (World.cell?_of_block (a := ⟨g, j, none⟩) (k.2 g h5 (by omega) (by omega) (by omega))).trans (h6 j hj)⟩
theorem Lt.ofList {N q : Nat} {v : Value} {W : World} (h : ListAt N q v W) (hq : 3 ≤ q ∧ q ≤ 5) : Lt N v W := by
  obtain ⟨g, cap, zs, h1, h2, h3, h4, h5, h6, h7⟩ := h
  exact ⟨g, q, cap, fun j => zs.getD j 0, h1, hq.1, hq.2, h3, h4, h7⟩
theorem Lt.turned {N : Nat} {v : Value} {W : World} (h : Lt N v W) (b k : Nat) {x : Int} {u : Value} (hc : W.cell? ⟨b, k, none⟩ = some u) : Lt N v (W.setCell ⟨b, k, none⟩ (.int .i64 x)) := by
  obtain ⟨g, n, cap, zs, h1, h2, h3, h4, h5, h6⟩ := h
  refine ⟨g, n, cap, fun j => if g = b ∧ j = k then x else zs j, h1, h2, h3, h4, by simpa [World.setCell] using h5, fun j hj => ?_⟩
  by_cases e : g = b ∧ j = k
  · obtain ⟨rfl, rfl⟩ := e
    rw [World.cell?_setCell_same _ _ _ hc]
    simp
  · rw [World.cell?_setCell_other _ _ _ _ (by intro q; injection q with q1 q2; exact e ⟨q1.symm, q2.symm⟩), h6 j hj]
    simp [e]
theorem StE.other {N b : Nat} {aa : Option Addr} {g n : Nat} {zl zh : Nat → Int} {W W' : World} (h : StE N aa g n zl zh W) (hb : 0 < n → g ≠ b) (k : K3 b b b 0 W W') : StE N aa g n zl zh W' := by
  have e : 0 < n → W'.heap[g]? = W.heap[g]? := fun hn => k.2 g (h.at_.lt hn) (hb hn) (hb hn) (hb hn)
  exact ⟨h.le, h.own, h.at_.at_, fun hn => Nat.lt_of_lt_of_le (h.at_.lt hn) k.1, fun j hj => (World.cell?_of_block (a := ⟨g, _, none⟩) (e (by omega))).trans (h.at_.lo j hj), fun j hj => (World.cell?_of_block (a := ⟨g, _, none⟩) (e (by omega))).trans (h.at_.hi j hj)⟩
theorem own4i {B : Nat} {e : TypeId} {q cap : Nat} {zs : List Int} {W : World} (h : Owns B e (.slice (some ⟨q, 0, none⟩) 4 cap) zs W) (hz : zs.length = 4) : B ≤ q ∧ q < W.heap.size ∧ 4 ≤ cap ∧ cap ≤ maxLen ∧ (∀ k, k < 4 → ∃ v, W.cell? ⟨q, k, none⟩ = some v) ∧ (∀ k, W.frozen? ⟨q, k, none⟩ = false) ∧ Lt B (.slice (some ⟨q, 0, none⟩) 4 cap) W := by
  obtain ⟨g, cap', h1, h2, h3, h4, h5, h6⟩ := h.form (by intro h; rw [h] at hz; simp at hz)
  injection h1 with h1 _ h1c
  injection h1 with h1
  injection h1 with h1 _ _
  subst h1 h1c
  rw [hz] at h4 h5
  refine ⟨h2, h3, h5, h6, fun k hk => ⟨_, h4 k hk⟩, fun k => ?_, ⟨_, 4, _, fun j => zs.getD j 0, rfl, by omega, by omega, h2, h3, h4⟩⟩
  rcases h.2 with ⟨h7, _⟩ | ⟨b, _, cur, h7, _, h8, _⟩
  · cases h7
  · injection h7 with h7 _ _
    injection h7 with h7
    injection h7 with h7 _ _
    subst h7
    unfold World.frozen?
    rw [h8]
    rfl
theorem Lt.own {B : Nat} {e : TypeId} {v : Value} {zs : List Int} {W : World} (h : Owns B e v zs W) (hz : 3 ≤ zs.length ∧ zs.length ≤ 5) : Lt B v W := by
  obtain ⟨g, cap, rfl, h2, h3, h4, h5, h6⟩ := h.form (by intro h; rw [h] at hz; simp at hz)
  exact ⟨g, _, cap, fun j => zs.getD j 0, rfl, hz.1, hz.2, h2, h3, h4⟩
theorem Lt.cut {B q cap : Nat} {W : World} (h : Lt B (.slice (some ⟨q, 0, none⟩) 4 cap) W) : Lt B (.slice (some ⟨q, 0, none⟩) 3 cap) W := by
  obtain ⟨g, n, cap', zs, h1, h2, h3, h4, h5, h6⟩ := h
  injection h1 with h1 h1n h1c
  subst h1n h1c
  injection h1 with h1
  injection h1 with h1 _ _
  subst h1
  exact ⟨_, 3, _, zs, rfl, by omega, by omega, h4, h5, fun k hk => h6 k (by omega)⟩
theorem Dr.own {w : World} {R : Nat} {a : Option Addr} {m c : Nat} {z : Nat → Int} {Q : Nat} {F : List Sp} {W W' : World} {q : Nat} (h : Dr w R a m c z Q F W) (g : W.grownBy W' (some q)) (hR : R < q) (hw : w.heap.size ≤ q) (hF : ∀ f ∈ F, f.b ≠ q) : Dr w R a m c z Q F W' := by
  obtain ⟨p, hp, hr⟩ := h.rd
  refine ⟨⟨p, hp, hr.kept g (fun k hk => by injection hk with hk; omega)⟩, grown_own h.grown g (fun k hk => by injection hk with hk; omega), fun f hf => ?_⟩
  obtain ⟨h1, h2, h3, h4, v, h5, h6⟩ := h.fs f hf
  have hb := g.block f.b h3 (fun e => hF f hf (by injection e))
  exact ⟨h1, h2, Nat.lt_of_lt_of_le h3 g.size, (World.frozen?_of_block (a := ⟨f.b, f.o, none⟩) hb).trans h4, v, (World.cell?_of_block (a := ⟨f.b, f.o, none⟩) hb).trans h5, h6⟩
theorem four {W : World} {U : Nat} {v0 v1 v2 v3 q0 q1 q2 q3 : Value} (c0 : W.cell? ⟨U, 0, none⟩ = some q0) (c1 : W.cell? ⟨U, 1, none⟩ = some q1) (c2 : W.cell? ⟨U, 2, none⟩ = some q2) (c3 : W.cell? ⟨U, 3, none⟩ = some q3) :
    ((((W.setCell ⟨U, 0, none⟩ v0).setCell ⟨U, 1, none⟩ v1).setCell ⟨U, 2, none⟩ v2).setCell ⟨U, 3, none⟩ v3).cell? ⟨U, 0, none⟩ = some v0 ∧ ((((W.setCell ⟨U, 0, none⟩ v0).setCell ⟨U, 1, none⟩ v1).setCell ⟨U, 2, none⟩ v2).setCell ⟨U, 3, none⟩ v3).cell? ⟨U, 1, none⟩ = some v1 ∧ ((((W.setCell ⟨U, 0, none⟩ v0).setCell ⟨U, 1, none⟩ v1).setCell ⟨U, 2, none⟩ v2).setCell ⟨U, 3, none⟩ v3).cell? ⟨U, 2, none⟩ = some v2 ∧ ((((W.setCell ⟨U, 0, none⟩ v0).setCell ⟨U, 1, none⟩ v1).setCell ⟨U, 2, none⟩ v2).setCell ⟨U, 3, none⟩ v3).cell? ⟨U, 3, none⟩ = some v3 := by
  obtain ⟨e0, e1, e2, e3⟩ := own4q c0 c1 c2 c3
  refine ⟨?_, ?_, ?_, e3 _ _ _ _⟩
  · rw [World.cell?_setCell_other _ _ _ _ (by simp), World.cell?_setCell_other _ _ _ _ (by simp), World.cell?_setCell_other _ _ _ _ (by simp)]
    exact e0 _
  · rw [World.cell?_setCell_other _ _ _ _ (by simp), World.cell?_setCell_other _ _ _ _ (by simp)]
    exact e1 _ _
  · rw [World.cell?_setCell_other _ _ _ _ (by simp)]
    exact e2 _ _ _
/-- One result's box, T, and what is drawn; operation s fills it. -/
structure OneD (w : World) (R : Nat) (a : Option Addr) (m c : Nat) (z : Nat → Int) (Q K n : Nat) (F : List Sp) (N T : Nat) (aa : Option Addr) (g0 n0 : Nat) (zl zh : Nat → Int) (s : Nat) (L : Nat → Bool) (W : World) : Prop where
  ds : DS w R a m c z Q K n F L W
  lT : T < W.heap.size
  st : StE N aa g0 n0 zl zh W
  c1 : L s = true → StC N T W
theorem OneD.start {w : World} {R : Nat} {a : Option Addr} {m c : Nat} {z : Nat → Int} {Q K n : Nat} {F : List Sp} {N T : Nat} {aa : Option Addr} {g0 n0 : Nat} {zl zh : Nat → Int} {s : Nat} {W : World} (d : Dr w R a m c z Q F W) (st : StE N aa g0 n0 zl zh W) (hT : T ≤ R) (hR : R < N) : OneD w R a m c z Q K n F N T aa g0 n0 zl zh s (fun _ => false) W.drew := by
  obtain ⟨p, _, hr⟩ := d.rd
  have := hr.size
  have k : K3 R R R 0 W W.drew := ⟨Nat.le_refl _, fun _ _ _ _ _ => rfl⟩
  exact ⟨DS.start d.drew, Nat.lt_of_le_of_lt hT this, st.next k hR hR hR, (fun h => by cases h)⟩
theorem OneD.pure {w : World} {R : Nat} {a : Option Addr} {m c : Nat} {z : Nat → Int} {Q K n : Nat} {F : List Sp} {N T : Nat} {aa : Option Addr} {g0 n0 : Nat} {zl zh : Nat → Int} {s : Nat} {L : Nat → Bool} {W : World} (h : OneD w R a m c z Q K n F N T aa g0 n0 zl zh s L W) {i : Nat} (hL : L i = false) (hi : i < n) (hs : i ≠ s) : OneD w R a m c z Q K n F N T aa g0 n0 zl zh s (upd L i true) W :=
  ⟨h.ds.pure hL hi, h.lT, h.st, fun e => h.c1 (by rwa [upd_other _ _ (Ne.symm hs)] at e)⟩
theorem OneD.call {w : World} {R : Nat} {a : Option Addr} {m c : Nat} {z : Nat → Int} {Q K n : Nat} {F : List Sp} {N T : Nat} {aa : Option Addr} {g0 n0 : Nat} {zl zh : Nat → Int} {s : Nat} {L : Nat → Bool} {W W' : World} (h : OneD w R a m c z Q K n F N T aa g0 n0 zl zh s L W) {i : Nat} (hL : L i = false) (hi : i < n) (hs : i ≠ s) (hR : R < N) (hT : T < N) (hRT : T ≠ R) {p : Nat} (hr : Rd W' R a m c z p) (g : W.grownBy W' (some R)) (hp : p ≤ Q + K * cnt L n + K) : OneD w R a m c z Q K n F N T aa g0 n0 zl zh s (upd L i true) W' := by
  have k : K3 R T T 0 W W' := K3.of g
  have hv := fun v (hv : StD N v W) => hv.next k hR hT hT
  exact ⟨h.ds.call hL hi hr g hp, Nat.lt_of_lt_of_le h.lT g.size, h.st.next k hR hT hT, fun e => (h.c1 (by rwa [upd_other _ _ (Ne.symm hs)] at e)).keep (g.block _ h.lT (fun e => hRT (by injection e))) hv⟩
theorem OneD.sto {w : World} {R : Nat} {a : Option Addr} {m c : Nat} {z : Nat → Int} {Q K n : Nat} {F : List Sp} {N T : Nat} {aa : Option Addr} {g0 n0 : Nat} {zl zh : Nat → Int} {s : Nat} {L : Nat → Bool} {W : World} (h : OneD w R a m c z Q K n F N T aa g0 n0 zl zh s L W) (hL : L s = false) (hs : s < n) (hR : R < N) (hT : T < N) (hRT : T ≠ R) (ho : Old w a m) (hwT : w.heap.size ≤ T) (hF : ∀ f ∈ F, f.b = T → ∀ v, f.P v) {on : Bool} {x1 x2 x3 q0 q1 q2 q3 : Value} (c0 : W.cell? ⟨T, 0, none⟩ = some q0) (c1 : W.cell? ⟨T, 1, none⟩ = some q1) (c2 : W.cell? ⟨T, 2, none⟩ = some q2) (c3 : W.cell? ⟨T, 3, none⟩ = some q3) (hv : StD N (.agg #[.bool on, x1, x2, x3]) W) : OneD w R a m c z Q K n F N T aa g0 n0 zl zh s (upd L s true) ((((W.setCell ⟨T, 0, none⟩ (.bool on)).setCell ⟨T, 1, none⟩ x1).setCell ⟨T, 2, none⟩ x2).setCell ⟨T, 3, none⟩ x3) := by
  have k : K3 R T T 0 W ((((W.setCell ⟨T, 0, none⟩ (.bool on)).setCell ⟨T, 1, none⟩ x1).setCell ⟨T, 2, none⟩ x2).setCell ⟨T, 3, none⟩ x3) := K3.set4
  have hn := fun v (hv : StD N v W) => hv.next k hR hT hT
  have d := (((h.ds.set ho hRT hwT (i := 0) (v := .bool on) (fun f hf hb _ => hF f hf hb _)).set ho hRT hwT (i := 1) (v := x1) (fun f hf hb _ => hF f hf hb _)).set ho hRT hwT (i := 2) (v := x2) (fun f hf hb _ => hF f hf hb _)).set ho hRT hwT (i := 3) (v := x3) (fun f hf hb _ => hF f hf hb _)
  exact ⟨d.pure hL hs, Nat.lt_of_lt_of_le h.lT k.1, h.st.next k hR hT hT, fun _ => StC.made c0 c1 c2 c3 (hn _ hv)⟩

/-- A state and two lists were drawn. -/
def HasR (w : World) (e : Ending) (w' : World) : Prop := ∃ (v1 v2 v3 : Value), StD w.heap.size v1 w' ∧ Lt w.heap.size v2 w' ∧ Lt w.heap.size v3 w' ∧ e = .returned (.tuple #[v1, v2, v3]) ∧ Below w.heap.size w w'
set_option maxRecDepth 10000 in
set_option maxHeartbeats 40000000 in
theorem drawAbsHas (a : Option Addr) (len cap : Nat) (z : Nat → Int) (w : World) (hz : ∀ i, 0 ≤ z i ∧ z i ≤ 255) (hl : len ≤ 1048576) (h : Bytes w a len cap z) :
    Calls Try.prog 13 #[.slice a len cap] w (HasR w) := by
  obtain ⟨i0, hi, hz0, hz1', hz2⟩ := info_parts infoIntL
  have b0 : Below w.heap.size w (w.alloc (.cells #[.bool false, .slice none 0 0, .int .i64 0, .int .i64 0] 27)) := (Below.refl _ _).alloc (Nat.le_refl _) _
  go_enter Try.func13, Try.ntmps13
  go_wp2_with fail
  refine (openS2 a len cap z _ hz hl (h.kept b0)).mono ?_
  rintro e w1 ⟨m, c, hm, rfl, h1, g1⟩
  have ho := old_of h hm
  have D1 : Dr w (w.heap.size + 1) a m c z 0 [⟨w.heap.size, 0, AnyQ⟩, ⟨w.heap.size, 1, AnyQ⟩, ⟨w.heap.size, 2, AnyQ⟩, ⟨w.heap.size, 3, AnyQ⟩] w1 := by
    have e : (w.alloc (.cells #[.bool false, .slice none 0 0, .int .i64 0, .int .i64 0] 27)).heap.size = w.heap.size + 1 := by simp
    rw [e] at h1
    have g2 : (w.alloc (.cells #[.bool false, .slice none 0 0, .int .i64 0, .int .i64 0] 27)).grownBy w1 (some (w.heap.size + 1)) := ⟨g1.os, g1.tape, g1.output, g1.size, fun k hk _ => g1.block k hk (by simp)⟩
    refine ⟨⟨0, Nat.le_refl _, h1⟩, grown_trans (World.grownBy_alloc _ _ _) g2, Fs.next ?_ g2⟩
    refine Fs.cons (by show w.heap.size ≠ _; omega) (Nat.le_refl _) (by show w.heap.size < _; simp) (by simp [go_sem]) (v := .bool false) (by simp [go_sem]) trivial ?_
    refine Fs.cons (by show w.heap.size ≠ _; omega) (Nat.le_refl _) (by show w.heap.size < _; simp) (by simp [go_sem]) (v := .slice none 0 0) (by simp [go_sem]) trivial ?_
    refine Fs.cons (by show w.heap.size ≠ _; omega) (Nat.le_refl _) (by show w.heap.size < _; simp) (by simp [go_sem]) (v := .int .i64 0) (by simp [go_sem]) trivial ?_
    exact Fs.cons (by show w.heap.size ≠ _; omega) (Nat.le_refl _) (by show w.heap.size < _; simp) (by simp [go_sem]) (v := .int .i64 0) (by simp [go_sem]) trivial (Fs.nil _ _ _)
  obtain ⟨R, hR⟩ : ∃ R, R = (w.alloc (.cells #[.bool false, .slice none 0 0, .int .i64 0, .int .i64 0] 27)).heap.size := ⟨_, rfl⟩
  have hR1 : R = w.heap.size + 1 := by rw [hR]; simp
  rw [← hR1] at D1
  rw [← hR]
  have hRw : w.heap.size ≤ R := by omega
  have hTR : w.heap.size ≠ R := by omega
  have hTR2 : w.heap.size < R := by omega
  have hRN : R < (w.heap.size + 2) := by omega
  clear hR hR1 h1 g1 b0 h hm hz
  obtain ⟨p1, hp1, hr1⟩ := D1.rd
  go_wp2_with fail
  refine (stateD R a m c z p1 12 _ hr1 (by omega) (by omega)).mono ?_
  rintro e w2 ⟨on, aa, g, n, cp, zs, sx, sy, p2, rfl, hn4, _, _, ha, hc, hp2, h2, g2⟩
  have hv0 : StD (w.heap.size + 2) (.agg #[.bool on, .slice aa n cp, .int .i64 sx, .int .i64 sy]) w2 := ⟨on, aa, g, n, cp, zs, sx, sy, rfl, hn4, fun hn => ⟨(ha hn).1, by have := (ha hn).2.1; have := hr1.size; omega, (ha hn).2.2⟩, fun j hj => (hc j hj).1⟩
  clear ha hc
  obtain ⟨g, zl, zh, he0⟩ := hv0.told
  have D2 := Dr.next (Q' := 3000) D1 h2 g2 (by omega)
  have hX2 : (w.heap.size + 2) ≤ w2.heap.size := by have := h2.size; omega
  have hgX0 : 0 < n → g < w2.heap.size := he0.at_.lt
  have hv0' : StE (w.heap.size + 2) aa g n zl zh (w2.alloc (.cells #[.bool on, .slice aa n cp, .int .i64 sx, .int .i64 sy] 27)) := he0.next (R := R) (T := R) (U := R) (i := 0) ⟨by simp, fun b hb _ _ _ => Below.heap_alloc _ _ _ hb⟩ hRN hRN hRN
  have D3 := D2.new4q (t := 27) (P0 := Is (.bool on)) (P1 := Is (.slice aa n cp)) (P2 := Is (.int .i64 sx)) (P3 := Is (.int .i64 sy)) rfl rfl rfl rfl
  obtain ⟨X, hX⟩ : ∃ X, X = w2.heap.size := ⟨_, rfl⟩
  have hXN : (w.heap.size + 2) ≤ X := by omega
  have hgX : 0 < n → g < X := fun h => by have := hgX0 h; omega
  rw [← hX] at D3
  have hXS : Hid (X = w2.heap.size) := hX
  clear hX hX2 D1 D2 h2 g2 hr1 hv0 he0 hgX0
  obtain ⟨F, hF⟩ : ∃ F : List Sp, F = [⟨X, 0, Is (.bool on)⟩, ⟨X, 1, Is (.slice aa n cp)⟩, ⟨X, 2, Is (.int .i64 sx)⟩, ⟨X, 3, Is (.int .i64 sy)⟩, ⟨w.heap.size, 0, AnyQ⟩, ⟨w.heap.size, 1, AnyQ⟩, ⟨w.heap.size, 2, AnyQ⟩, ⟨w.heap.size, 3, AnyQ⟩] := ⟨_, rfl⟩
  rw [← hF] at D3
  have mT : ∀ i, i < 4 → (⟨w.heap.size, i, AnyQ⟩ : Sp) ∈ F := by
    intro i hi
    rw [hF]
    rcases (show i = 0 ∨ i = 1 ∨ i = 2 ∨ i = 3 by omega) with rfl | rfl | rfl | rfl <;> simp
  have mX0 : (⟨X, 0, Is (.bool on)⟩ : Sp) ∈ F := by rw [hF]; simp
  have mX1 : (⟨X, 1, Is (.slice aa n cp)⟩ : Sp) ∈ F := by rw [hF]; simp
  have mX2 : (⟨X, 2, Is (.int .i64 sx)⟩ : Sp) ∈ F := by rw [hF]; simp
  have mX3 : (⟨X, 3, Is (.int .i64 sy)⟩ : Sp) ∈ F := by rw [hF]; simp
  have hFT : ∀ f ∈ F, f.b = w.heap.size → ∀ v, f.P v := by
    intro f hf hb v
    rw [hF] at hf
    simp only [List.mem_cons, List.not_mem_nil, or_false] at hf
    rcases hf with rfl | rfl | rfl | rfl | rfl | rfl | rfl | rfl <;> first | exact trivial | (exfalso; replace hb : X = w.heap.size := hb; omega)
  have hFN : ∀ f ∈ F, ∀ b, X < b → f.b ≠ b := by
    intro f hf b hb
    rw [hF] at hf
    simp only [List.mem_cons, List.not_mem_nil, or_false] at hf
    rcases hf with rfl | rfl | rfl | rfl | rfl | rfl | rfl | rfl <;> first | (show X ≠ b; omega) | (show w.heap.size ≠ b; omega)
  clear hF
  go_wp2_with fail
  rw [← hXS.out]
  clear hXS
  refine (absOkS on aa g 0 n cp zl zh sx sy _ hv0'.at_).mono ?_
  rintro e w3 ⟨rfl, b3⟩
  have D4 := (D3.below b3).more (Q' := 3000) (by omega)
  have hv4 : StE (w.heap.size + 2) aa g n zl zh w3 := hv0'.next (R := R) (T := R) (U := R) (i := 0) ⟨b3.size, fun b hb _ _ _ => b3.block b hb⟩ hRN hRN hRN
  clear D3 hv0' b3
  obtain ⟨ok, hok⟩ : ∃ q, absOk on n zl zh sx sy = q := ⟨_, rfl⟩
  rw [hok]
  cases ok with
  | false =>
    have hS0 := OneD.start (K := 400) (n := 8) (s := 5) (T := w.heap.size) (D4.more (Q' := 4000) (by omega)) hv4 hRw hRN
    clear D4 hv4
    go_wp2_with fail
    refine region_inv3 [(0, 16), (1, 17), (2, 18), (3, 19), (4, 20), (6, 3), (7, 4)]
      (fun j v W => match j with
        | 0 => Is (.agg #[.bool on, .slice aa n cp, .int .i64 sx, .int .i64 sy]) v
        | 1 => Is (.pointer (some ⟨R, 0, none⟩)) v
        | 2 => Lt (w.heap.size + 2) v W
        | 3 => Is (.pointer (some ⟨R, 0, none⟩)) v
        | 4 => Lt (w.heap.size + 2) v W
        | 6 => Lt (w.heap.size + 2) v W
        | 7 => Lt (w.heap.size + 2) v W
        | _ => True)
      (fun L W => OneD w R a m c z 4000 400 8 F (w.heap.size + 2) w.heap.size aa g n zl zh 5 L W) (K3 R w.heap.size w.heap.size)
      (by kernel_rfl) (by kernel_rfl) (by kernel_rfl) (by kernel_rfl) (by kernel_rfl) rfl hS0 ?_ ?_ ?_
    · intro i j v W W' hji hφ hT
      match j, hφ with
      | 0, hφ => exact hφ
      | 1, hφ => exact hφ
      | 2, hφ => exact hφ.next hT hRN (by omega)
      | 3, hφ => exact hφ
      | 4, hφ => exact hφ.next hT hRN (by omega)
      | 5, hφ => exact hφ
      | 6, hφ => exact hφ.next hT hRN (by omega)
      | 7, hφ => exact hφ.next hT hRN (by omega)
      | _ + 8, _ => trivial
    · intro i L vals W hi' hφ hS hL hd
      have hi2 : i < 8 := hi'
      clear hi'
      have hbd := DS.bd (K := 400) (n := 8) (L := L)
      obtain ⟨p', hp', hr⟩ := hS.ds.rd
      have hrs := hr.size
      rcases (show i = 0 ∨ i = 1 ∨ i = 2 ∨ i = 3 ∨ i = 4 ∨ i = 5 ∨ i = 6 ∨ i = 7 by omega) with rfl | rfl | rfl | rfl | rfl | rfl | rfl | rfl
      · obtain ⟨_, c0, rfl⟩ := Dr.has hS.ds (mX0)
        obtain ⟨_, c1, rfl⟩ := Dr.has hS.ds (mX1)
        obtain ⟨_, c2, rfl⟩ := Dr.has hS.ds (mX2)
        obtain ⟨_, c3, rfl⟩ := Dr.has hS.ds (mX3)
        refine wpAt_of rfl rfl ?_
        simp only [frOf, Act.put]
        go_wp2_with fail
        first | exact ⟨trivial, rfl, K3.refl _ _ _ _ _, hS.pure hL (by decide) (by decide)⟩ | exact ⟨rfl, K3.refl _ _ _ _ _, hS.pure hL (by decide) (by decide)⟩
      · refine wpAt_of rfl rfl ?_
        simp only [frOf, Act.put]
        go_wp2_with fail
        first | exact ⟨trivial, rfl, K3.refl _ _ _ _ _, hS.pure hL (by decide) (by decide)⟩ | exact ⟨rfl, K3.refl _ _ _ _ _, hS.pure hL (by decide) (by decide)⟩
      · have k1 : vals 1 = .pointer (some ⟨R, 0, none⟩) := hφ 1 (hd 1 (by decide))
        refine wpAt_of rfl rfl ?_
        simp only [frOf, Act.put]
        go_wp2_with fail
        refine (numsN 4 (by omega) R a m c z p' _ hr (by omega)).mono ?_
        rintro e W' ⟨v, p2, rfl, hv0, hp2, hR', g'⟩
        have hv : Lt (w.heap.size + 2) v W' := (Lt.ofList hv0 (by omega)).base (by have := hS.ds.grown.size; omega)
        go_wp2_with fail
        have hS' := hS.call hL (by decide) (by decide) hRN (by omega) hTR hR' g' (by omega)
        first | exact ⟨trivial, hv, K3.of g', hS'⟩ | exact ⟨hv, K3.of g', hS'⟩
      · refine wpAt_of rfl rfl ?_
        simp only [frOf, Act.put]
        go_wp2_with fail
        first | exact ⟨trivial, rfl, K3.refl _ _ _ _ _, hS.pure hL (by decide) (by decide)⟩ | exact ⟨rfl, K3.refl _ _ _ _ _, hS.pure hL (by decide) (by decide)⟩
      · have k3 : vals 3 = .pointer (some ⟨R, 0, none⟩) := hφ 3 (hd 3 (by decide))
        refine wpAt_of rfl rfl ?_
        simp only [frOf, Act.put]
        go_wp2_with fail
        refine (numsN 4 (by omega) R a m c z p' _ hr (by omega)).mono ?_
        rintro e W' ⟨v, p2, rfl, hv0, hp2, hR', g'⟩
        have hv : Lt (w.heap.size + 2) v W' := (Lt.ofList hv0 (by omega)).base (by have := hS.ds.grown.size; omega)
        go_wp2_with fail
        have hS' := hS.call hL (by decide) (by decide) hRN (by omega) hTR hR' g' (by omega)
        first | exact ⟨trivial, hv, K3.of g', hS'⟩ | exact ⟨hv, K3.of g', hS'⟩
      · have k0 : vals 0 = .agg #[.bool on, .slice aa n cp, .int .i64 sx, .int .i64 sy] := hφ 0 (hd 0 (by decide))
        have hv1 := hS.st.std on cp sx sy
        obtain ⟨q0, c0, _⟩ := Dr.has hS.ds (mT 0 (by decide))
        obtain ⟨q1, c1, _⟩ := Dr.has hS.ds (mT 1 (by decide))
        obtain ⟨q2, c2, _⟩ := Dr.has hS.ds (mT 2 (by decide))
        obtain ⟨q3, c3, _⟩ := Dr.has hS.ds (mT 3 (by decide))
        have f0 := Dr.free hS.ds (mT 0 (by decide))
        have f1 := Dr.free hS.ds (mT 1 (by decide))
        have f2 := Dr.free hS.ds (mT 2 (by decide))
        have f3 := Dr.free hS.ds (mT 3 (by decide))
        refine wpAt_none rfl rfl ?_
        simp only [frOf, Act.put]
        go_wp2_with fail
        have hS' := hS.sto hL (by decide) hRN (by omega) hTR ho (Nat.le_refl _) hFT c0 c1 c2 c3 hv1
        first | exact ⟨trivial, trivial, K3.set4, hS'⟩ | exact ⟨trivial, K3.set4, hS'⟩ | exact ⟨K3.set4, hS'⟩
      · have hv : Lt (w.heap.size + 2) (vals 2) W := hφ 2 (hd 2 (by decide))
        obtain ⟨vv, hvv⟩ : ∃ vv, vals 2 = vv := ⟨_, rfl⟩
        rw [hvv] at hv
        refine wpAt_of rfl rfl ?_
        simp only [frOf, Act.put, hvv]
        go_wp2_with fail
        first | exact ⟨trivial, hv, K3.refl _ _ _ _ _, hS.pure hL (by decide) (by decide)⟩ | exact ⟨hv, K3.refl _ _ _ _ _, hS.pure hL (by decide) (by decide)⟩
      · have hv : Lt (w.heap.size + 2) (vals 4) W := hφ 4 (hd 4 (by decide))
        obtain ⟨vv, hvv⟩ : ∃ vv, vals 4 = vv := ⟨_, rfl⟩
        rw [hvv] at hv
        refine wpAt_of rfl rfl ?_
        simp only [frOf, Act.put, hvv]
        go_wp2_with fail
        first | exact ⟨trivial, hv, K3.refl _ _ _ _ _, hS.pure hL (by decide) (by decide)⟩ | exact ⟨hv, K3.refl _ _ _ _ _, hS.pure hL (by decide) (by decide)⟩
    · intro L vals W hall hφ hS
      have hD := hS.ds.done
      obtain ⟨on1, s1, x1, y1, t0, t1, t2, t3, hv1⟩ := hS.c1 (hall 5 (by decide))
      have l3 : Lt (w.heap.size + 2) (vals 6) W := hφ 6 (by decide)
      have l4 : Lt (w.heap.size + 2) (vals 7) W := hφ 7 (by decide)
      clear hS hφ
      simp only [frOf, Act.put, List.setIfInBounds_toArray, List.set_cons_succ, List.set_cons_zero]
      have bE := hD.below0 hRw
      obtain ⟨u3, hu3⟩ : ∃ v, vals 6 = v := ⟨_, rfl⟩
      obtain ⟨u4, hu4⟩ : ∃ v, vals 7 = v := ⟨_, rfl⟩
      rw [hu3] at l3 ⊢
      rw [hu4] at l4 ⊢
      go_wp2_with fail
      exact bodyPost_ret (v := .tuple #[.agg #[.bool on1, s1, x1, y1], u3, u4]) (by simp [results, Try.results13, go_sem, t0, t1, t2, t3]) rfl ⟨_, _, _, hv1.base (by omega), l3.base (by omega), l4.base (by omega), rfl, bE⟩
  | true =>
    obtain ⟨p4, hp4, hr4⟩ := D4.rd
    have hRX : X < w3.heap.size := (D4.fs _ mX0).2.2.1
    obtain ⟨_, c0, rfl⟩ := Dr.has D4 mX0
    obtain ⟨_, c1, rfl⟩ := Dr.has D4 mX1
    obtain ⟨_, c2, rfl⟩ := Dr.has D4 mX2
    obtain ⟨_, c3, rfl⟩ := Dr.has D4 mX3
    go_wp2_with fail
    refine (pointD R a m c z p4 on aa g 0 n cp zl zh sx sy _ hr4 (by omega) hv4.at_ (fun hn => by have := hv4.own hn; omega) hok).mono ?_
    rintro e w5 ⟨v1, v2, zs1, zs2, N2, p5, rfl, hz1, hz2', _, _, o1, o2, hN2, hap, hp5, h5, g5⟩
    obtain ⟨q1, cap1, e1, m1, _⟩ := o1.form (by intro h; rw [h] at hz1; simp at hz1)
    obtain ⟨q2, cap2, e2, m2, _⟩ := o2.form (by intro h; rw [h] at hz2'; simp at hz2')
    rw [hz1] at e1
    rw [hz2'] at e2
    subst e1 e2
    have hXq1 : X < q1 := by omega
    have hq12 : q1 < N2 := hap q1 rfl
    have hRN2 : R < N2 := by omega
    have D5 := D4.next (Q' := 4500) h5 g5 (by omega)
    have E5 := hv4.next (K3.of (T := R) (U := R) (i := 0) g5) hRN hRN hRN
    have o1' : Owns (w.heap.size + 2) 3 (.slice (some ⟨q1, 0, none⟩) 4 cap1) zs1 w5 := o1.weaken (by have := D4.grown.size; omega)
    have o2' := o2
    clear D4 hv4 hr4 h5 g5 o1 o2 c0 c1 c2 c3 hap
    obtain ⟨p6, hp6, h6⟩ := D5.rd
    go_wp2_with fail
    refine (oddS R a m c z p6 4 _ h6 (by omega) (by omega) (by omega)).mono ?_
    rintro e w6 ⟨od, rfl, h7, g7⟩
    have D6 := D5.next (Q' := 4600) h7 g7 (by omega)
    have E6 := E5.next (K3.of (T := R) (U := R) (i := 0) g7) hRN hRN hRN
    replace o1' := Owns.reader o1' (show R < (w.heap.size + 2) by omega) g7
    replace o2' := Owns.reader o2' hRN2 g7
    clear D5 E5 h6 h7 g7
    go_upto_if 28 with fail
    go_cut [7, 8] (fun v1 v2 W => Lt (w.heap.size + 2) v1 W ∧ Lt (w.heap.size + 2) v2 W ∧ StE (w.heap.size + 2) aa g n zl zh W ∧ Dr w R a m c z 5000 F W)
    case first =>
      cases od
      · go_wp2_with fail
        go_meet
        exact ⟨Lt.own o1' (by omega), (Lt.own o2' (by omega)).base (by omega), E6, D6.more (by omega)⟩
      · obtain ⟨p7, hp7, h7⟩ := D6.rd
        go_wp2_with fail
        refine (pick R a m c z p7 4 _ h7 (by omega) (by omega) (by omega)).mono ?_
        rintro e w7 ⟨x0, hx0, hx0', rfl, h8, g8⟩
        have D7 := D6.next (Q' := 4601) h8 g8 (by omega)
        have E7 := E6.next (K3.of (T := R) (U := R) (i := 0) g8) hRN hRN hRN
        replace o1' := Owns.reader o1' (show R < (w.heap.size + 2) by omega) g8
        replace o2' := Owns.reader o2' hRN2 g8
        clear D6 E6 h7 h8 g8
        obtain rfl | rfl | rfl | rfl : x0 = 0 ∨ x0 = 1 ∨ x0 = 2 ∨ x0 = 3 := by omega
        · obtain ⟨p7, hp7, h7⟩ := D7.rd
          go_wp2_with fail
          refine (pick R a m c z p7 4 _ h7 (by omega) (by omega) (by omega)).mono ?_
          rintro e w8 ⟨ix, hi1, hi2, rfl, h8, g8⟩
          obtain ⟨kk, rfl⟩ := Int.eq_ofNat_of_zero_le hi1
          have tn : ((kk : Int)).toNat = kk := by omega
          have D8 := D7.next (Q' := 4602) h8 g8 (by omega)
          have E8 := E7.next (K3.of (T := R) (U := R) (i := 0) g8) hRN hRN hRN
          have O1 := Owns.reader o1' (show R < (w.heap.size + 2) by omega) g8
          have O2 := Owns.reader o2' hRN2 g8
          clear D7 E7 h7 h8 g8 o1' o2'
          obtain ⟨p8, hp8, h8⟩ := D8.rd
          go_wp2_with fail
          refine (rawS R a m c z p8 _ h8 (by omega)).mono ?_
          rintro e w9 ⟨x, p9, hx1, hx2, rfl, hp9, h9, g9⟩
          have D9 := D8.next (Q' := 4610) h9 g9 (by omega)
          have E9 := E8.next (K3.of (T := R) (U := R) (i := 0) g9) hRN hRN hRN
          have O1' := Owns.reader O1 (show R < (w.heap.size + 2) by omega) g9
          have O2' := Owns.reader O2 hRN2 g9
          clear D8 E8 h8 h9 g9 O1 O2
          obtain ⟨r0, r1, r2, r3, r4, r5, r6⟩ := own4i O1' hz1
          obtain ⟨s0, s1, s2, s3, s4, s5, s6⟩ := own4i O2' hz2'
          have cc : ∃ v, w9.cell? ⟨q1, kk, none⟩ = some v := r4 kk (by omega)
          obtain ⟨u, cc⟩ := cc
          have ff := r5 kk
          have hqR : q1 ≠ R := by omega
          have D10 := D9.set (B := q1) (i := kk) (v := .int .i64 x) ho hqR (by omega) (fun f hf h1 _ => absurd h1 (hFN f hf q1 (by omega)))
          have hk : K3 q1 q1 q1 0 w9 (w9.setCell ⟨q1, kk, none⟩ (.int .i64 x)) := ⟨by simp [World.setCell], fun b _ h1 _ _ => Below.heap_setCell _ _ _ _ h1⟩
          have E10 : StE (w.heap.size + 2) aa g n zl zh (w9.setCell ⟨q1, kk, none⟩ (.int .i64 x)) := E9.other (fun h => by have := hgX h; omega) hk
          have L1 : Lt (w.heap.size + 2) (.slice (some ⟨q1, 0, none⟩) 4 cap1) (w9.setCell ⟨q1, kk, none⟩ (.int .i64 x)) := Lt.turned r6 _ _ cc
          have L2 : Lt (w.heap.size + 2) (.slice (some ⟨q2, 0, none⟩) 4 cap2) (w9.setCell ⟨q1, kk, none⟩ (.int .i64 x)) := (Lt.turned s6 _ _ cc).base (by omega)
          clear O1' O2' r0 r1 r2 r3 r4 r5 r6 s0 s1 s2 s3 s4 s5 s6 D9 E9 hk
          go_wp2_with fail
          go_meet
          exact ⟨L1, L2, E10, D10.more (by omega)⟩
        · obtain ⟨p7, hp7, h7⟩ := D7.rd
          go_wp2_with fail
          refine (pick R a m c z p7 4 _ h7 (by omega) (by omega) (by omega)).mono ?_
          rintro e w8 ⟨ix, hi1, hi2, rfl, h8, g8⟩
          obtain ⟨kk, rfl⟩ := Int.eq_ofNat_of_zero_le hi1
          have tn : ((kk : Int)).toNat = kk := by omega
          have D8 := D7.next (Q' := 4602) h8 g8 (by omega)
          have E8 := E7.next (K3.of (T := R) (U := R) (i := 0) g8) hRN hRN hRN
          have O1 := Owns.reader o1' (show R < (w.heap.size + 2) by omega) g8
          have O2 := Owns.reader o2' hRN2 g8
          clear D7 E7 h7 h8 g8 o1' o2'
          obtain ⟨p8, hp8, h8⟩ := D8.rd
          go_wp2_with fail
          refine (rawS R a m c z p8 _ h8 (by omega)).mono ?_
          rintro e w9 ⟨x, p9, hx1, hx2, rfl, hp9, h9, g9⟩
          have D9 := D8.next (Q' := 4610) h9 g9 (by omega)
          have E9 := E8.next (K3.of (T := R) (U := R) (i := 0) g9) hRN hRN hRN
          have O1' := Owns.reader O1 (show R < (w.heap.size + 2) by omega) g9
          have O2' := Owns.reader O2 hRN2 g9
          clear D8 E8 h8 h9 g9 O1 O2
          obtain ⟨r0, r1, r2, r3, r4, r5, r6⟩ := own4i O1' hz1
          obtain ⟨s0, s1, s2, s3, s4, s5, s6⟩ := own4i O2' hz2'
          have cc : ∃ v, w9.cell? ⟨q2, kk, none⟩ = some v := s4 kk (by omega)
          obtain ⟨u, cc⟩ := cc
          have ff := s5 kk
          have hqR : q2 ≠ R := by omega
          have D10 := D9.set (B := q2) (i := kk) (v := .int .i64 x) ho hqR (by omega) (fun f hf h1 _ => absurd h1 (hFN f hf q2 (by omega)))
          have hk : K3 q2 q2 q2 0 w9 (w9.setCell ⟨q2, kk, none⟩ (.int .i64 x)) := ⟨by simp [World.setCell], fun b _ h1 _ _ => Below.heap_setCell _ _ _ _ h1⟩
          have E10 : StE (w.heap.size + 2) aa g n zl zh (w9.setCell ⟨q2, kk, none⟩ (.int .i64 x)) := E9.other (fun h => by have := hgX h; omega) hk
          have L1 : Lt (w.heap.size + 2) (.slice (some ⟨q1, 0, none⟩) 4 cap1) (w9.setCell ⟨q2, kk, none⟩ (.int .i64 x)) := Lt.turned r6 _ _ cc
          have L2 : Lt (w.heap.size + 2) (.slice (some ⟨q2, 0, none⟩) 4 cap2) (w9.setCell ⟨q2, kk, none⟩ (.int .i64 x)) := (Lt.turned s6 _ _ cc).base (by omega)
          clear O1' O2' r0 r1 r2 r3 r4 r5 r6 s0 s1 s2 s3 s4 s5 s6 D9 E9 hk
          go_wp2_with fail
          go_meet
          exact ⟨L1, L2, E10, D10.more (by omega)⟩
        · have D8 := D7.below ((Below.refl w7.heap.size w7).alloc (Nat.le_refl _) (.cells #[.int .i64 0] 3))
          have E8 := E7.next (R := R) (T := R) (U := R) (i := 0) (W' := w7.alloc (.cells #[.int .i64 0] 3)) ⟨by simp, fun b hb _ _ _ => Below.heap_alloc _ _ _ hb⟩ hRN hRN hRN
          have o1 := Owns.alloc o1' (.cells #[.int .i64 0] 3)
          have o2 := Owns.alloc o2' (.cells #[.int .i64 0] 3)
          obtain ⟨_, _, hr7⟩ := D7.rd
          have hsz := hr7.size
          have o1u : (w7.alloc (.cells #[.int .i64 0] 3)).ownsRow (w.heap.size + 2) 3 1 (.slice (some ⟨q1, 0, none⟩) 4 cap1) 4 (zs1.map (Value.int .i64)) := by have := o1; unfold Owns at this; rwa [hz1] at this
          clear hr7
          clear D7 E7 o1' o2'
          go_wp2_with (at_builtin; refine wpList_append_own _ rfl (.tmp 51) (.tmp 52) 35 rfl (w.heap.size + 2) 3 i0 (.int .i64 0) 1 8 Try.underlying35 hi hz0 hz1' hz2 rfl (by decide) _ _ _ rfl o1u ⟨w7.heap.size, 0, none⟩ 1 1 [.int .i64 0] rfl rfl (one_cells (by simp)) (by simp [Value.oneCell']) (by simp [maxLen]) (by omega) (by simp; omega) ?_)
          intro v' w' o' g' n'
          have O' : Owns (w.heap.size + 2) 3 v' (zs1 ++ [0]) w' := by unfold Owns; simpa [hz1] using o'
          have O2 : Owns N2 3 (.slice (some ⟨q2, 0, none⟩) 4 cap2) zs2 w' := o2.keep (fun g hg => g'.block g (World.ownsRow.lt o2 g hg).2 (fun e => by have := (World.ownsRow.lt o2 g hg).1; simp [Value.ownBlock] at e; omega))
          have D9 := Dr.own (q := q1) D8 g' (by omega) (by omega) (fun f hf => hFN f hf q1 hXq1)
          have E9 := E8.other (fun h => by have := hgX h; omega) (b := q1) ⟨g'.size, fun b hb h1 _ _ => g'.block b hb (fun e => h1 (by injection e))⟩
          clear o1 o2 o' g' n' D8 E8
          go_wp2_with fail
          go_meet
          exact ⟨Lt.own O' (by simp; omega), (Lt.own O2 (by omega)).base (by omega), E9, D9.more (by omega)⟩
        · have L1 := Lt.own o1' (by omega)
          have L2 := ((own4i o2' hz2').2.2.2.2.2.2.cut).base (M := (w.heap.size + 2)) (by omega)
          have hc2 := (own4i o2' hz2').2.2.1
          have hc2' : (3 : Int) ≤ (cap2 : Int) := by omega
          clear o1' o2'
          go_wp2_with fail
          go_meet
          exact ⟨L1, L2, E7, D7.more (by omega)⟩
    case rest =>
      obtain ⟨l1, l2, E9, D9⟩ := hcut
      clear D6 E6 o1' o2'
      obtain ⟨_, c0, rfl⟩ := D9.has mX0
      obtain ⟨_, c1, rfl⟩ := D9.has mX1
      obtain ⟨_, c2, rfl⟩ := D9.has mX2
      obtain ⟨_, c3, rfl⟩ := D9.has mX3
      obtain ⟨t0, d0, _⟩ := D9.has (mT 0 (by decide))
      obtain ⟨t1, d1, _⟩ := D9.has (mT 1 (by decide))
      obtain ⟨t2, d2, _⟩ := D9.has (mT 2 (by decide))
      obtain ⟨t3, d3, _⟩ := D9.has (mT 3 (by decide))
      have f0 := D9.free (mT 0 (by decide))
      have f1 := D9.free (mT 1 (by decide))
      have f2 := D9.free (mT 2 (by decide))
      have f3 := D9.free (mT 3 (by decide))
      obtain ⟨e0, e1, e2, e3⟩ := four (v0 := .bool on) (v1 := .slice aa n cp) (v2 := .int .i64 sx) (v3 := .int .i64 sy) d0 d1 d2 d3
      have D10 := (((D9.set ho hTR (Nat.le_refl _) (i := 0) (v := .bool on) (fun f hf hb _ => hFT f hf hb _)).set ho hTR (Nat.le_refl _) (i := 1) (v := .slice aa n cp) (fun f hf hb _ => hFT f hf hb _)).set ho hTR (Nat.le_refl _) (i := 2) (v := .int .i64 sx) (fun f hf hb _ => hFT f hf hb _)).set ho hTR (Nat.le_refl _) (i := 3) (v := .int .i64 sy) (fun f hf hb _ => hFT f hf hb _)
      have hv := ((E9.std on cp sx sy).next (K3.set4 (R := R) (T := w.heap.size) (U := w.heap.size) (i := 0) (v0 := .bool on) (v1 := .slice aa n cp) (v2 := .int .i64 sx) (v3 := .int .i64 sy)) hRN (by omega) (by omega)).base (M := w.heap.size) (by omega)
      have l1' := (l1.next (K3.set4 (R := R) (T := w.heap.size) (U := w.heap.size) (i := 0) (v0 := .bool on) (v1 := .slice aa n cp) (v2 := .int .i64 sx) (v3 := .int .i64 sy)) hRN (by omega)).base (M := w.heap.size) (by omega)
      have l2' := (l2.next (K3.set4 (R := R) (T := w.heap.size) (U := w.heap.size) (i := 0) (v0 := .bool on) (v1 := .slice aa n cp) (v2 := .int .i64 sx) (v3 := .int .i64 sy)) hRN (by omega)).base (M := w.heap.size) (by omega)
      have bE := D10.below0 hRw
      clear D9 D10 E9 l1 l2
      go_wp2_with fail
      exact bodyPost_ret (v := .tuple #[.agg #[.bool on, .slice aa n cp, .int .i64 sx, .int .i64 sy], u7, u8]) (by simp [results, Try.results13, go_sem, e0, e1, e2, e3]) rfl ⟨_, _, _, hv, l1', l2', rfl, bE⟩
end Go.Proofs.Ytiehokibfdaleaa
