/- One invariant for all that draws over a reader (DS): the reader, with a budget of picks by how much is done; memory made behind a world; cells of which a property is known. -/
import Derived.Test.YtiehokibfdaleaaDrawIn2
namespace Go.Proofs.Ytiehokibfdaleaa
open Go.ChangeShapes Go.WideShapes Go.ChangeAt Go.RowKit

/-- How many of the first n are done. -/
def cnt (L : Nat → Bool) : Nat → Nat
  | 0 => 0
  | n + 1 => cnt L n + (if L n then 1 else 0)
theorem cnt_above {L : Nat → Bool} {i : Nat} : ∀ {n}, n ≤ i → cnt (upd L i true) n = cnt L n
  | 0, _ => rfl
  | n + 1, h => by
    show cnt (upd L i true) n + _ = cnt L n + _
    rw [cnt_above (by omega), upd_other _ _ (show n ≠ i by omega)]
theorem cnt_upd {L : Nat → Bool} {i : Nat} (hL : L i = false) : ∀ {n}, i < n → cnt (upd L i true) n = cnt L n + 1
  | 0, h => absurd h (by omega)
  | n + 1, h => by
    show cnt (upd L i true) n + _ = cnt L n + _ + 1
    by_cases e : i = n
    · subst e
      rw [cnt_above (Nat.le_refl _), upd_same, hL]
      simp
    · rw [cnt_upd hL (by omega), upd_other _ _ (show n ≠ i by omega)]
      omega
theorem cnt_le (L : Nat → Bool) : ∀ n, cnt L n ≤ n
  | 0 => Nat.le_refl _
  | n + 1 => by
    have := cnt_le L n
    show cnt L n + _ ≤ n + 1
    split <;> omega
theorem cnt_none : ∀ n, cnt (fun _ => false) n = 0
  | 0 => rfl
  | n + 1 => by show cnt _ n + _ = 0; rw [cnt_none n]; rfl

/-- Some int. -/
def IsI (v : Value) : Prop := ∃ n, v = .int .i64 n ∧ I64 n
def IsV (x v : Value) : Prop := v = x
structure Sp where
  b : Nat
  o : Nat
  P : Value → Prop
/-- The cells F of the world W, each with what is known of it: in memory that was made behind w, other than the reader's block R. -/
def Fs (w : World) (R : Nat) (F : List Sp) (W : World) : Prop :=
  ∀ f ∈ F, f.b ≠ R ∧ w.heap.size ≤ f.b ∧ f.b < W.heap.size ∧ W.frozen? ⟨f.b, f.o, none⟩ = false ∧ ∃ v, W.cell? ⟨f.b, f.o, none⟩ = some v ∧ f.P v
theorem Fs.next {w : World} {R : Nat} {F : List Sp} {W W' : World} (h : Fs w R F W) (g : W.grownBy W' (some R)) : Fs w R F W' := by
  obtain ⟨hc, hf⟩ := gcell g
  intro f hf'
  obtain ⟨h1, h2, h3, h4, v, h5, h6⟩ := h f hf'
  exact ⟨h1, h2, Nat.lt_of_lt_of_le h3 g.size, (hf _ _ h3 h1).trans h4, v, (hc _ _ h3 h1).trans h5, h6⟩
theorem Fs.alloc {w : World} {R : Nat} {F : List Sp} {W : World} (h : Fs w R F W) (o : Obj) : Fs w R F (W.alloc o) := h.next (World.grownBy_alloc _ _ _)
theorem Fs.drew {w : World} {R : Nat} {F : List Sp} {W : World} (h : Fs w R F W) : Fs w R F W.drew := h.next (grown_drew _ _)
theorem Fs.set {w : World} {R : Nat} {F : List Sp} {W : World} {B i : Nat} {v : Value} (h : Fs w R F W) (hv : ∀ f ∈ F, f.b = B → f.o = i → f.P v) : Fs w R F (W.setCell ⟨B, i, none⟩ v) := by
  intro f hf
  obtain ⟨h1, h2, h3, h4, u, h5, h6⟩ := h f hf
  refine ⟨h1, h2, by simpa [World.setCell] using h3, by rw [World.frozen?_setCell]; exact h4, ?_⟩
  by_cases he : f.b = B ∧ f.o = i
  · obtain ⟨rfl, rfl⟩ := he
    exact ⟨v, World.cell?_setCell_same _ _ _ h5, hv f hf rfl rfl⟩
  · exact ⟨u, (World.cell?_setCell_other _ _ _ _ (fun e => he (by injection e with e1 e2; exact ⟨e1.symm, e2.symm⟩))).trans h5, h6⟩
theorem Fs.cons {w : World} {R : Nat} {F : List Sp} {W : World} {f : Sp} (h1 : f.b ≠ R) (h2 : w.heap.size ≤ f.b) (h3 : f.b < W.heap.size) (h4 : W.frozen? ⟨f.b, f.o, none⟩ = false) {v : Value} (h5 : W.cell? ⟨f.b, f.o, none⟩ = some v) (h6 : f.P v) (h : Fs w R F W) : Fs w R (f :: F) W := by
  intro g hg
  rcases List.mem_cons.1 hg with rfl | hg
  · exact ⟨h1, h2, h3, h4, v, h5, h6⟩
  · exact h g hg
theorem Fs.nil (w : World) (R : Nat) (W : World) : Fs w R [] W := fun _ h => by cases h
/-- What draws, all told: w behind which memory is made, the reader R with at most Q picks done, the cells F. -/
structure Dr (w : World) (R : Nat) (a : Option Addr) (m c : Nat) (z : Nat → Int) (Q : Nat) (F : List Sp) (W : World) : Prop where
  rd : ∃ p, p ≤ Q ∧ Rd W R a m c z p
  grown : w.grownBy W (some R)
  fs : Fs w R F W
theorem Dr.next {w : World} {R : Nat} {a : Option Addr} {m c : Nat} {z : Nat → Int} {Q : Nat} {F : List Sp} {W W' : World} {p Q' : Nat} (h : Dr w R a m c z Q F W) (hr : Rd W' R a m c z p) (g : W.grownBy W' (some R)) (hp : p ≤ Q') : Dr w R a m c z Q' F W' :=
  ⟨⟨p, hp, hr⟩, grown_trans h.grown g, h.fs.next g⟩
theorem Dr.below {w : World} {R : Nat} {a : Option Addr} {m c : Nat} {z : Nat → Int} {Q : Nat} {F : List Sp} {W W' : World} (h : Dr w R a m c z Q F W) (b : Below W.heap.size W W') : Dr w R a m c z Q F W' := by
  obtain ⟨p, hp, hr⟩ := h.rd
  exact h.next (hr.kept (row := none) (grown_below b none) (by simp)) (grown_below b _) hp
theorem Dr.drew {w : World} {R : Nat} {a : Option Addr} {m c : Nat} {z : Nat → Int} {Q : Nat} {F : List Sp} {W : World} (h : Dr w R a m c z Q F W) : Dr w R a m c z Q F W.drew := h.below (Below.refl _ W).drew
theorem Dr.more {w : World} {R : Nat} {a : Option Addr} {m c : Nat} {z : Nat → Int} {Q Q' : Nat} {F : List Sp} {W : World} (h : Dr w R a m c z Q F W) (hq : Q ≤ Q') : Dr w R a m c z Q' F W := by
  obtain ⟨p, hp, hr⟩ := h.rd
  exact ⟨⟨p, by omega, hr⟩, h.grown, h.fs⟩
theorem Rd.put' {W : World} {R B i : Nat} {v : Value} {a : Option Addr} {m c : Nat} {z : Nat → Int} {q : Nat} (h : Rd W R a m c z q) (hB : B ≠ R) (hr : m = 0 ∨ ∀ b off, a = some ⟨b, off, none⟩ → b ≠ B) : Rd (W.setCell ⟨B, i, none⟩ v) R a m c z q := by
  have o : ∀ b j, b ≠ B → (W.setCell ⟨B, i, none⟩ v).cell? ⟨b, j, none⟩ = W.cell? ⟨b, j, none⟩ := fun b j hne => World.cell?_setCell_other _ _ _ _ (fun e => hne (by injection e with e; exact e.symm))
  refine ⟨by simpa [World.setCell] using h.size, (o R 0 (Ne.symm hB)).trans h.c0, (o R 1 (Ne.symm hB)).trans h.c1, by rw [World.frozen?_setCell]; exact h.fz, h.len, h.byte, ?_⟩
  rcases hr with h0 | hr
  · exact .inl h0
  rcases h.row with h0 | ⟨b, off, e, hb, hc⟩
  · exact .inl h0
  · exact .inr ⟨b, off, e, hb, fun j hj => (o b _ (hr b off e)).trans (hc j hj)⟩
/-- The reader's bytes lie in memory that was there ahead of w. -/
def Old (w : World) (a : Option Addr) (m : Nat) : Prop := m = 0 ∨ ∀ b off, a = some ⟨b, off, none⟩ → b < w.heap.size
theorem Dr.set {w : World} {R : Nat} {a : Option Addr} {m c : Nat} {z : Nat → Int} {Q : Nat} {F : List Sp} {W : World} (h : Dr w R a m c z Q F W) (ho : Old w a m) {B i : Nat} {v : Value} (hB : B ≠ R) (hw : w.heap.size ≤ B) (hv : ∀ f ∈ F, f.b = B → f.o = i → f.P v) : Dr w R a m c z Q F (W.setCell ⟨B, i, none⟩ v) := by
  obtain ⟨p, hp, hr⟩ := h.rd
  exact ⟨⟨p, hp, hr.put' hB (ho.imp id fun ho b off e => by have := ho b off e; omega)⟩, grown_put h.grown hw, h.fs.set hv⟩
theorem Dr.has {w : World} {R : Nat} {a : Option Addr} {m c : Nat} {z : Nat → Int} {Q : Nat} {F : List Sp} {W : World} (h : Dr w R a m c z Q F W) {f : Sp} (hf : f ∈ F) : ∃ v, W.cell? ⟨f.b, f.o, none⟩ = some v ∧ f.P v := (h.fs f hf).2.2.2.2
theorem Dr.free {w : World} {R : Nat} {a : Option Addr} {m c : Nat} {z : Nat → Int} {Q : Nat} {F : List Sp} {W : World} (h : Dr w R a m c z Q F W) {f : Sp} (hf : f ∈ F) : W.frozen? ⟨f.b, f.o, none⟩ = false := (h.fs f hf).2.2.2.1
theorem Dr.new {w : World} {R : Nat} {a : Option Addr} {m c : Nat} {z : Nat → Int} {Q : Nat} {F : List Sp} {W : World} (h : Dr w R a m c z Q F W) {x y : Value} {t : TypeId} {P P' : Value → Prop} (hx : P x) (hy : P' y) : Dr w R a m c z Q (⟨W.heap.size, 0, P⟩ :: ⟨W.heap.size, 1, P'⟩ :: F) (W.alloc (.cells #[x, y] t)) := by
  obtain ⟨p, hp, hr⟩ := h.rd
  have hR := hr.size
  have hs := h.grown.size
  refine ⟨⟨p, hp, hr.kept (World.grownBy_alloc _ _ none) (by simp)⟩, grown_trans h.grown (World.grownBy_alloc _ _ _), ?_⟩
  refine Fs.cons (by show W.heap.size ≠ R; omega) hs (by show W.heap.size < _; simp) (by simp [go_sem]) (v := x) (by simp [go_sem]) hx ?_
  exact Fs.cons (by show W.heap.size ≠ R; omega) hs (by show W.heap.size < _; simp) (by simp [go_sem]) (v := y) (by simp [go_sem]) hy (h.fs.alloc _)
/-- The same within a region of n operations, with K picks for each that is done. -/
def DS (w : World) (R : Nat) (a : Option Addr) (m c : Nat) (z : Nat → Int) (Q K n : Nat) (F : List Sp) (L : Nat → Bool) (W : World) : Prop := Dr w R a m c z (Q + K * cnt L n) F W
theorem DS.pure {w : World} {R : Nat} {a : Option Addr} {m c : Nat} {z : Nat → Int} {Q K n : Nat} {F : List Sp} {L : Nat → Bool} {W : World} (h : DS w R a m c z Q K n F L W) {i : Nat} (hL : L i = false) (hi : i < n) : DS w R a m c z Q K n F (upd L i true) W := by
  refine Dr.more h ?_
  rw [cnt_upd hL hi, Nat.mul_add]
  omega
theorem DS.call {w : World} {R : Nat} {a : Option Addr} {m c : Nat} {z : Nat → Int} {Q K n : Nat} {F : List Sp} {L : Nat → Bool} {W W' : World} (h : DS w R a m c z Q K n F L W) {i : Nat} (hL : L i = false) (hi : i < n) {p : Nat} (hr : Rd W' R a m c z p) (g : W.grownBy W' (some R)) (hp : p ≤ Q + K * cnt L n + K) : DS w R a m c z Q K n F (upd L i true) W' := by
  refine Dr.next h hr g ?_
  rw [cnt_upd hL hi, Nat.mul_add]
  omega
theorem DS.below {w : World} {R : Nat} {a : Option Addr} {m c : Nat} {z : Nat → Int} {Q K n : Nat} {F : List Sp} {L : Nat → Bool} {W W' : World} (h : DS w R a m c z Q K n F L W) (b : Below W.heap.size W W') : DS w R a m c z Q K n F L W' := Dr.below h b
theorem DS.set {w : World} {R : Nat} {a : Option Addr} {m c : Nat} {z : Nat → Int} {Q K n : Nat} {F : List Sp} {L : Nat → Bool} {W : World} (h : DS w R a m c z Q K n F L W) (ho : Old w a m) {B i : Nat} {v : Value} (hB : B ≠ R) (hw : w.heap.size ≤ B) (hv : ∀ f ∈ F, f.b = B → f.o = i → f.P v) : DS w R a m c z Q K n F L (W.setCell ⟨B, i, none⟩ v) := Dr.set h ho hB hw hv
theorem DS.start {w : World} {R : Nat} {a : Option Addr} {m c : Nat} {z : Nat → Int} {Q K n : Nat} {F : List Sp} {W : World} (h : Dr w R a m c z Q F W) : DS w R a m c z Q K n F (fun _ => false) W := by
  unfold DS
  rw [cnt_none]
  exact h
theorem DS.done {w : World} {R : Nat} {a : Option Addr} {m c : Nat} {z : Nat → Int} {Q K n : Nat} {F : List Sp} {L : Nat → Bool} {W : World} (h : DS w R a m c z Q K n F L W) : Dr w R a m c z (Q + K * n) F W := Dr.more h (by have := Nat.mul_le_mul_left K (cnt_le L n); omega)
theorem DS.bd {K n : Nat} {L : Nat → Bool} : K * cnt L n ≤ K * n := Nat.mul_le_mul_left K (cnt_le L n)
end Go.Proofs.Ytiehokibfdaleaa
