/- The box in which a procedure is drawn: its code grows by appends; its last step; the result. -/
import Derived.Test.YtiehokibfdaleaaDrawProc
namespace Go.Proofs.Ytiehokibfdaleaa
open Go.ChangeShapes Go.WideShapes Go.ChangeAt Go.RowKit

/-- A procedure was drawn: its code is a list of its own. -/
def DPrc (R : Nat) (a : Option Addr) (m c : Nat) (z : Nat → Int) (p : Nat) (w : World) (e : Ending) (w' : World) : Prop := ∃ (lo hi : Int) (cv : Value) (k p' : Nat), e = .returned (.agg #[.int .i64 lo, .int .i64 hi, cv]) ∧ I64 lo ∧ I64 hi ∧ 1 ≤ k ∧ k ≤ 20 ∧ OwnI w.heap.size 81 cv k w' ∧ p' ≤ p + 20000 ∧ Rd w' R a m c z p' ∧ w.grownBy w' (some R)
/-- A box of three cells, made within a call; the last one holds the code. T: the result's box. -/
structure PBx (w : World) (R : Nat) (a : Option Addr) (m c : Nat) (z : Nat → Int) (Q : Nat) (F : List Sp) (B T o N : Nat) (eB e : TypeId) (cv : Value) (k : Nat) (W : World) : Prop where
  d : Dr w R a m c z Q F W
  lB : B < W.heap.size
  tB : Typ B eB W
  lT : T < W.heap.size
  tT : Typ T eB W
  f : W.frozen? ⟨B, o, none⟩ = false
  cl : W.cell? ⟨B, o, none⟩ = some cv
  ow : OwnI N e cv k W
theorem PBx.aps {w : World} {R : Nat} {a : Option Addr} {m c : Nat} {z : Nat → Int} {Q : Nat} {F : List Sp} {B T o N : Nat} {eB e : TypeId} {cv : Value} {k : Nat} {K n ap st : Nat} {W : World} (b : PBx w R a m c z Q F B T o N eB e cv k W) : ApS w R a m c z Q K n F B T o N eB e cv k ap st (fun _ => false) W :=
  ⟨DS.start b.d, b.lB, b.tB, b.lT, b.tT, b.f, fun _ => b.cl, fun _ => b.ow, fun h => by cases h⟩
theorem PBx.start {w : World} {R : Nat} {a : Option Addr} {m c : Nat} {z : Nat → Int} {Q : Nat} {F : List Sp} {B T o N : Nat} {eB e : TypeId} {cv : Value} {k : Nat} {K n ap st : Nat} {W : World} (b : PBx w R a m c z Q F B T o N eB e cv k W) : ApS w R a m c z Q K n F B T o N eB e cv k ap st (fun _ => false) W.drew :=
  ⟨DS.start b.d.drew, b.lB, b.tB, b.lT, b.tT, b.f, fun _ => b.cl, fun _ => b.ow, fun h => by cases h⟩
theorem PBx.of {w : World} {R : Nat} {a : Option Addr} {m c : Nat} {z : Nat → Int} {Q : Nat} {F : List Sp} {B T o N : Nat} {eB e : TypeId} {cv : Value} {k : Nat} {K n ap st : Nat} {L : Nat → Bool} {W : World} (h : ApS w R a m c z Q K n F B T o N eB e cv k ap st L W) (hs : L st = true) : ∃ v, PBx w R a m c z (Q + K * n) F B T o N eB e v (k + 1) W := by
  obtain ⟨v, h1, h2⟩ := h.done hs
  exact ⟨v, h.ds.done, h.lB, h.typ, h.lT, h.typT, h.free, h1, h2⟩
theorem PBx.next {w : World} {R : Nat} {a : Option Addr} {m c : Nat} {z : Nat → Int} {Q : Nat} {F : List Sp} {B T o N : Nat} {eB e : TypeId} {cv : Value} {k : Nat} {Q' p : Nat} {W W' : World} (b : PBx w R a m c z Q F B T o N eB e cv k W) (hBR : B ≠ R) (hTR : T ≠ R) (hRN : R < N) (hr : Rd W' R a m c z p) (g : W.grownBy W' (some R)) (hp : p ≤ Q') : PBx w R a m c z Q' F B T o N eB e cv k W' := by
  have hb : W'.heap[B]? = W.heap[B]? := g.block B b.lB (fun e => hBR (by injection e))
  have ht : W'.heap[T]? = W.heap[T]? := g.block T b.lT (fun e => hTR (by injection e))
  exact ⟨b.d.next hr g hp, Nat.lt_of_lt_of_le b.lB g.size, b.tB.keep hb, Nat.lt_of_lt_of_le b.lT g.size, b.tT.keep ht, (World.frozen?_of_block (a := ⟨B, o, none⟩) hb).trans b.f, (World.cell?_of_block (a := ⟨B, o, none⟩) hb).trans b.cl, b.ow.grown hRN g⟩
theorem PBx.more {w : World} {R : Nat} {a : Option Addr} {m c : Nat} {z : Nat → Int} {Q : Nat} {F : List Sp} {B T o N : Nat} {eB e : TypeId} {cv : Value} {k : Nat} {Q' : Nat} {W : World} (b : PBx w R a m c z Q F B T o N eB e cv k W) (hp : Q ≤ Q') : PBx w R a m c z Q' F B T o N eB e cv k W :=
  ⟨b.d.more hp, b.lB, b.tB, b.lT, b.tT, b.f, b.cl, b.ow⟩
theorem PBx.alloc {w : World} {R : Nat} {a : Option Addr} {m c : Nat} {z : Nat → Int} {Q : Nat} {F : List Sp} {B T o N : Nat} {eB e : TypeId} {cv : Value} {k : Nat} {W : World} (b : PBx w R a m c z Q F B T o N eB e cv k W) (hBR : B ≠ R) (hTR : T ≠ R) (hRN : R < N) (x : Obj) : PBx w R a m c z Q F B T o N eB e cv k (W.alloc x) := by
  obtain ⟨p, hp, hr⟩ := b.d.rd
  exact b.next hBR hTR hRN (hr.kept (World.grownBy_alloc _ _ none) (by simp)) (World.grownBy_alloc _ _ _) hp
/-- An append and its store. -/
theorem PBx.app {w : World} {R : Nat} {a : Option Addr} {m c : Nat} {z : Nat → Int} {Q : Nat} {F : List Sp} {B T o N : Nat} {eB e : TypeId} {cv : Value} {k : Nat} {v : Value} {W W' : World} (b : PBx w R a m c z Q F B T o N eB e cv k W) (he : eB ≠ e) (hBR : B ≠ R) (hRN : R < N) (hwN : w.heap.size ≤ N) (hw : w.heap.size ≤ B) (hF1 : ∀ f ∈ F, f.b = B ∨ f.b = T) (hF2 : ∀ f ∈ F, f.b = B → f.o ≠ o) (hold : Old w a m) (g : W.grownBy W' cv.ownBlock) (hv : OwnI N e v (k + 1) W') : PBx w R a m c z Q F B T o N eB e v (k + 1) (W'.setCell ⟨B, o, none⟩ v) := by
  have h0 : ApS w R a m c z Q 0 2 F B T o N eB e cv k 0 1 (fun _ => false) W := b.aps
  have h1 := h0.app rfl (by omega) rfl (by omega) he hRN hwN hF1 g
  have hc := h1.cell rfl
  have hA : AppV N e (k + 1) R B v W' := ⟨hv, fun x => by have := (hv.blk x).1; omega, h1.typ.ne hv he⟩
  have h2 := h1.sto (st := 1) rfl (by omega) rfl (by omega) hBR hw hF2 hold hA (by rw [hc]; rfl)
  have hcc : (W'.setCell ⟨B, o, none⟩ v).cell? ⟨B, o, none⟩ = some v := cell_set (by rw [hc]; rfl)
  exact ⟨h2.ds.done.more (by omega), h2.lB, h2.typ, h2.lT, h2.typT, h2.free, hcc, hv.keep fun g hg => Below.heap_setCell W' _ v g (fun x => hA.2.2 (by rw [hg, x]))⟩
/-- A value of which nothing is said. -/
def AnyV (_ : Value) : Prop := True
/-- The cells of a drawn procedure's box and of its result, but for the code. -/
def prcF (B T : Nat) (lo hi : Int) : List Sp := [⟨B, 0, Is (.int .i64 lo)⟩, ⟨B, 1, Is (.int .i64 hi)⟩, ⟨T, 0, AnyV⟩, ⟨T, 1, AnyV⟩, ⟨T, 2, AnyV⟩]
theorem prcF_in {B T : Nat} {lo hi : Int} : ∀ f ∈ prcF B T lo hi, f.b = B ∨ f.b = T := by
  intro f hf
  simp only [prcF, List.mem_cons, List.not_mem_nil, or_false] at hf
  rcases hf with rfl | rfl | rfl | rfl | rfl <;> simp
theorem prcF_no {B T : Nat} {lo hi : Int} (h : B ≠ T) : ∀ f ∈ prcF B T lo hi, f.b = B → f.o ≠ 2 := by
  intro f hf hb
  simp only [prcF, List.mem_cons, List.not_mem_nil, or_false] at hf
  rcases hf with rfl | rfl | rfl | rfl | rfl <;> first | (simp; done) | exact absurd hb (Ne.symm h)
theorem PBx.made {w w1 : World} {R : Nat} {a : Option Addr} {m c : Nat} {z : Nat → Int} {p Q : Nat} {eB : TypeId} (e : TypeId) {x0 x1 x2 : Value} (lo hi : Int) (hRs : R < w.heap.size) (h1 : Rd w1 R a m c z p) (g1 : (w.alloc (.cells #[x0, x1, x2] eB)).grownBy w1 (some R)) (hp : p ≤ Q) : PBx w R a m c z Q (prcF w1.heap.size w.heap.size lo hi) w1.heap.size w.heap.size 2 w.heap.size eB e (.slice none 0 0) 0 (w1.alloc (.cells #[.int .i64 lo, .int .i64 hi, .slice none 0 0] eB)) := by
  have hs : w.heap.size + 1 ≤ w1.heap.size := by have := g1.size; simpa using this
  have hT : w1.heap[w.heap.size]? = some (.cells #[x0, x1, x2] eB (0, 0)) := (g1.block _ (by simp) (by simp; omega)).trans (heap_alloc_new _ _)
  have hT2 : (w1.alloc (.cells #[.int .i64 lo, .int .i64 hi, .slice none 0 0] eB)).heap[w.heap.size]? = some (.cells #[x0, x1, x2] eB (0, 0)) := (Below.heap_alloc _ _ _ (by omega)).trans hT
  have hB : (w1.alloc (.cells #[.int .i64 lo, .int .i64 hi, .slice none 0 0] eB)).heap[w1.heap.size]? = some (.cells #[.int .i64 lo, .int .i64 hi, .slice none 0 0] eB (0, 0)) := heap_alloc_new _ _
  have cT : ∀ j x, #[x0, x1, x2][j]? = some x → (w1.alloc (.cells #[.int .i64 lo, .int .i64 hi, .slice none 0 0] eB)).cell? ⟨w.heap.size, j, none⟩ = some x := fun j x hj => by
    unfold World.cell?
    rw [hT2]
    simpa using hj
  have fT : ∀ j, (w1.alloc (.cells #[.int .i64 lo, .int .i64 hi, .slice none 0 0] eB)).frozen? ⟨w.heap.size, j, none⟩ = false := fun j => by
    unfold World.frozen?
    rw [hT2]
    rfl
  refine ⟨⟨⟨p, hp, h1.kept (World.grownBy_alloc _ _ none) (by simp)⟩, grown_trans (grown_trans (World.grownBy_alloc _ _ _) g1) (World.grownBy_alloc _ _ _), ?_⟩, by simp, ⟨_, _, hB⟩, by simp; omega, ⟨_, _, hT2⟩, by simp [go_sem], by simp [go_sem], OwnI.nil _ _ _⟩
  refine Fs.cons (by show w1.heap.size ≠ R; omega) (by show w.heap.size ≤ w1.heap.size; omega) (by show w1.heap.size < _; simp) (by simp [go_sem]) (v := .int .i64 lo) (by simp [go_sem]) rfl ?_
  refine Fs.cons (by show w1.heap.size ≠ R; omega) (by show w.heap.size ≤ w1.heap.size; omega) (by show w1.heap.size < _; simp) (by simp [go_sem]) (v := .int .i64 hi) (by simp [go_sem]) rfl ?_
  refine Fs.cons (by show w.heap.size ≠ R; omega) (Nat.le_refl _) (by show w.heap.size < _; simp; omega) (fT 0) (cT 0 x0 rfl) trivial ?_
  refine Fs.cons (by show w.heap.size ≠ R; omega) (Nat.le_refl _) (by show w.heap.size < _; simp; omega) (fT 1) (cT 1 x1 rfl) trivial ?_
  exact Fs.cons (by show w.heap.size ≠ R; omega) (Nat.le_refl _) (by show w.heap.size < _; simp; omega) (fT 2) (cT 2 x2 rfl) trivial (Fs.nil _ _ _)
/-- A procedure whose last step was appended, about to be laid into T. -/
def EndV (N : Nat) (e : TypeId) (k R T : Nat) (lo hi : Int) (x : Value) (W : World) : Prop := ∃ v, x = .agg #[.int .i64 lo, .int .i64 hi, v] ∧ AppV N e k R T v W
theorem EndV.next {N R T k ca i : Nat} {e : TypeId} {lo hi : Int} {ob : Option Nat} {x : Value} {W W' : World} (h : EndV N e k R T lo hi x W) (t : TA R T ob ca i W W') (hi' : i ≠ ca) : EndV N e k R T lo hi x W' := by
  obtain ⟨v, h1, h2⟩ := h
  exact ⟨v, h1, h2.next t hi'⟩
theorem TA.sto3 {R B : Nat} {ob : Option Nat} {ap i : Nat} {W : World} {v0 v1 v2 : Value} : TA R B ob ap i W (((W.setCell ⟨B, 0, none⟩ v0).setCell ⟨B, 1, none⟩ v1).setCell ⟨B, 2, none⟩ v2) := ⟨by simp [World.setCell], fun b _ _ h2 _ => (Below.heap_setCell _ _ _ b h2).trans ((Below.heap_setCell _ _ _ b h2).trans (Below.heap_setCell _ _ _ b h2))⟩
/-- What the last region of such a draw holds. ca: the call of the append; st: the store of the result. -/
structure EnS (w : World) (R : Nat) (a : Option Addr) (m c : Nat) (z : Nat → Int) (Q K n : Nat) (F : List Sp) (B T N : Nat) (eB e : TypeId) (lo hi : Int) (cv : Value) (k ca st : Nat) (L : Nat → Bool) (W : World) : Prop where
  ds : DS w R a m c z Q K n F L W
  lB : B < W.heap.size
  tB : Typ B eB W
  lT : T < W.heap.size
  tT : Typ T eB W
  cl : W.cell? ⟨B, 2, none⟩ = some cv
  own : L ca = false → OwnI N e cv k W
  done : L st = true → ∃ v, W.cell? ⟨T, 0, none⟩ = some (.int .i64 lo) ∧ W.cell? ⟨T, 1, none⟩ = some (.int .i64 hi) ∧ W.cell? ⟨T, 2, none⟩ = some v ∧ OwnI N e v (k + 1) W
theorem EnS.start {w : World} {R : Nat} {a : Option Addr} {m c : Nat} {z : Nat → Int} {Q K n : Nat} {F : List Sp} {B T N : Nat} {eB e : TypeId} {lo hi : Int} {cv : Value} {k ca st : Nat} {W : World} (b : PBx w R a m c z Q F B T 2 N eB e cv k W) : EnS w R a m c z Q K n F B T N eB e lo hi cv k ca st (fun _ => false) W.drew :=
  ⟨DS.start b.d.drew, b.lB, b.tB, b.lT, b.tT, b.cl, fun _ => b.ow, fun h => by cases h⟩
theorem EnS.next {w : World} {R : Nat} {a : Option Addr} {m c : Nat} {z : Nat → Int} {Q K n : Nat} {F : List Sp} {B T N : Nat} {eB e : TypeId} {lo hi : Int} {cv : Value} {k ca st : Nat} {L : Nat → Bool} {W W' : World} (h : EnS w R a m c z Q K n F B T N eB e lo hi cv k ca st L W) {i : Nat} (hia : i ≠ ca) (his : i ≠ st) (hBR : B ≠ R) (hTR : T ≠ R) (hRN : R < N) (g : W.grownBy W' (some R)) (hd : DS w R a m c z Q K n F (upd L i true) W') : EnS w R a m c z Q K n F B T N eB e lo hi cv k ca st (upd L i true) W' := by
  have hb : W'.heap[B]? = W.heap[B]? := g.block B h.lB (fun e => hBR (by injection e))
  have ht : W'.heap[T]? = W.heap[T]? := g.block T h.lT (fun e => hTR (by injection e))
  refine ⟨hd, Nat.lt_of_lt_of_le h.lB g.size, h.tB.keep hb, Nat.lt_of_lt_of_le h.lT g.size, h.tT.keep ht, (World.cell?_of_block (a := ⟨B, 2, none⟩) hb).trans h.cl, fun hl => ?_, fun hl => ?_⟩
  · rw [upd_other _ _ (Ne.symm hia)] at hl
    exact (h.own hl).grown hRN g
  · rw [upd_other _ _ (Ne.symm his)] at hl
    obtain ⟨v, h0, h1, h2, h3⟩ := h.done hl
    exact ⟨v, (World.cell?_of_block (a := ⟨T, 0, none⟩) ht).trans h0, (World.cell?_of_block (a := ⟨T, 1, none⟩) ht).trans h1, (World.cell?_of_block (a := ⟨T, 2, none⟩) ht).trans h2, h3.grown hRN g⟩
theorem EnS.pure {w : World} {R : Nat} {a : Option Addr} {m c : Nat} {z : Nat → Int} {Q K n : Nat} {F : List Sp} {B T N : Nat} {eB e : TypeId} {lo hi : Int} {cv : Value} {k ca st : Nat} {L : Nat → Bool} {W : World} (h : EnS w R a m c z Q K n F B T N eB e lo hi cv k ca st L W) {i : Nat} (hL : L i = false) (hi' : i < n) (hia : i ≠ ca) (his : i ≠ st) (hBR : B ≠ R) (hTR : T ≠ R) (hRN : R < N) : EnS w R a m c z Q K n F B T N eB e lo hi cv k ca st (upd L i true) W :=
  h.next hia his hBR hTR hRN (grownBy_refl _ _) (h.ds.pure hL hi')
theorem EnS.call {w : World} {R : Nat} {a : Option Addr} {m c : Nat} {z : Nat → Int} {Q K n : Nat} {F : List Sp} {B T N : Nat} {eB e : TypeId} {lo hi : Int} {cv : Value} {k ca st : Nat} {L : Nat → Bool} {W W' : World} (h : EnS w R a m c z Q K n F B T N eB e lo hi cv k ca st L W) {i p : Nat} (hL : L i = false) (hi' : i < n) (hia : i ≠ ca) (his : i ≠ st) (hBR : B ≠ R) (hTR : T ≠ R) (hRN : R < N) (hr : Rd W' R a m c z p) (g : W.grownBy W' (some R)) (hp : p ≤ Q + K * cnt L n + K) : EnS w R a m c z Q K n F B T N eB e lo hi cv k ca st (upd L i true) W' :=
  h.next hia his hBR hTR hRN g (h.ds.call hL hi' hr g hp)
theorem EnS.app {w : World} {R : Nat} {a : Option Addr} {m c : Nat} {z : Nat → Int} {Q K n : Nat} {F : List Sp} {B T N : Nat} {eB e : TypeId} {lo hi : Int} {cv : Value} {k ca st : Nat} {L : Nat → Bool} {W W' : World} (h : EnS w R a m c z Q K n F B T N eB e lo hi cv k ca st L W) (hL : L ca = false) (hn : ca < n) (hs : L st = false) (hne : st ≠ ca) (he : eB ≠ e) (hRN : R < N) (hwN : w.heap.size ≤ N) (hF : ∀ f ∈ F, f.b = B ∨ f.b = T) (g : W.grownBy W' cv.ownBlock) : EnS w R a m c z Q K n F B T N eB e lo hi cv k ca st (upd L ca true) W' := by
  have ho := h.own hL
  have hob := h.tB.ne ho he
  have hobT := h.tT.ne ho he
  have ht : W'.heap[T]? = W.heap[T]? := g.block T h.lT (fun e => hobT e.symm)
  have hb : W'.heap[B]? = W.heap[B]? := g.block B h.lB (fun e => hob e.symm)
  obtain ⟨p, hp, hr⟩ := h.ds.rd
  have hlt : ∀ j, cv.ownBlock = some j → N ≤ j := fun j hj => (ho.blk hj).1
  have d1 : DS w R a m c z Q K n F L W' := ⟨⟨p, hp, hr.kept g (fun j hj => by have := hlt j hj; omega)⟩, grown_own h.ds.grown g (fun j hj => by have := hlt j hj; omega), fun f hf => by
    obtain ⟨h1, h2, h3, h4, v, h5, h6⟩ := h.ds.fs f hf
    have hfb : W'.heap[f.b]? = W.heap[f.b]? := by
      rcases hF f hf with x | x
      · rw [x]; exact hb
      · rw [x]; exact ht
    exact ⟨h1, h2, Nat.lt_of_lt_of_le h3 g.size, (World.frozen?_of_block (a := ⟨f.b, f.o, none⟩) hfb).trans h4, v, (World.cell?_of_block (a := ⟨f.b, f.o, none⟩) hfb).trans h5, h6⟩⟩
  refine ⟨d1.pure hL hn, Nat.lt_of_lt_of_le h.lB g.size, h.tB.keep hb, Nat.lt_of_lt_of_le h.lT g.size, h.tT.keep ht, (World.cell?_of_block (a := ⟨B, 2, none⟩) hb).trans h.cl, fun hl => ?_, fun hl => ?_⟩
  · rw [upd_same] at hl; cases hl
  · rw [upd_other _ _ hne, hs] at hl; cases hl
theorem EnS.sto {w : World} {R : Nat} {a : Option Addr} {m c : Nat} {z : Nat → Int} {Q K n : Nat} {F : List Sp} {B T N : Nat} {eB e : TypeId} {lo hi : Int} {cv : Value} {k ca st : Nat} {L : Nat → Bool} {W : World} (h : EnS w R a m c z Q K n F B T N eB e lo hi cv k ca st L W) (hL : L st = false) (hn : st < n) (hca : L ca = true) (hne : st ≠ ca) (hTR : T ≠ R) (hBT : B ≠ T) (hw : w.heap.size ≤ T) (hF : ∀ f ∈ F, f.b = T → f.P = AnyV) (hold : Old w a m) {v : Value} (hv : AppV N e (k + 1) R T v W) {u0 u1 u2 : Value} (c0 : W.cell? ⟨T, 0, none⟩ = some u0) (c1 : W.cell? ⟨T, 1, none⟩ = some u1) (c2 : W.cell? ⟨T, 2, none⟩ = some u2) : EnS w R a m c z Q K n F B T N eB e lo hi cv k ca st (upd L st true) (((W.setCell ⟨T, 0, none⟩ (.int .i64 lo)).setCell ⟨T, 1, none⟩ (.int .i64 hi)).setCell ⟨T, 2, none⟩ v) := by
  have hA : ∀ (x : Value) (j : Nat), ∀ f ∈ F, f.b = T → f.o = j → f.P x := fun x j f hf hb _ => by rw [hF f hf hb]; trivial
  have d1 := ((h.ds.set (v := .int .i64 lo) (i := 0) hold hTR hw (hA _ _)).set (v := .int .i64 hi) (i := 1) hold hTR hw (hA _ _)).set (v := v) (i := 2) hold hTR hw (hA _ _)
  obtain ⟨e0, e1, e2⟩ := own3c c0 c1 c2
  refine ⟨d1.pure hL hn, by simpa [World.setCell] using h.lB, ((h.tB.set _ _).set _ _).set _ _, by simpa [World.setCell] using h.lT, ((h.tT.set _ _).set _ _).set _ _, ?_, fun hl => ?_, fun _ => ⟨v, ?_, ?_, e2 _ _ _, hv.1.keep fun g hg => ?_⟩⟩
  · rw [World.cell?_setCell_other _ _ _ _ (fun e => hBT (by injection e with e; exact e.symm)), World.cell?_setCell_other _ _ _ _ (fun e => hBT (by injection e with e; exact e.symm)), World.cell?_setCell_other _ _ _ _ (fun e => hBT (by injection e with e; exact e.symm))]
    exact h.cl
  · rw [upd_other _ _ (Ne.symm hne), hca] at hl; cases hl
  · rw [World.cell?_setCell_other _ _ _ _ (by simp), World.cell?_setCell_other _ _ _ _ (by simp)]
    exact e0 _
  · rw [World.cell?_setCell_other _ _ _ _ (by simp)]
    exact e1 _ _
  · have hg' : g ≠ T := fun x => hv.2.2 (by rw [hg, x])
    rw [Below.heap_setCell _ _ _ _ hg', Below.heap_setCell _ _ _ _ hg', Below.heap_setCell _ _ _ _ hg']
theorem prcF_any {B T : Nat} {lo hi : Int} (h : B ≠ T) : ∀ f ∈ prcF B T lo hi, f.b = T → f.P = AnyV := by
  intro f hf hb
  simp only [prcF, List.mem_cons, List.not_mem_nil, or_false] at hf
  rcases hf with rfl | rfl | rfl | rfl | rfl <;> first | rfl | exact absurd hb h
theorem PBx.kept {w : World} {R : Nat} {a : Option Addr} {m c : Nat} {z : Nat → Int} {Q : Nat} {F : List Sp} {B T o N : Nat} {eB e : TypeId} {cv : Value} {k : Nat} {W W' : World} (b : PBx w R a m c z Q F B T o N eB e cv k W) (he : eB ≠ e) (g : W.grownBy W' cv.ownBlock) : W'.frozen? ⟨B, o, none⟩ = false ∧ W'.cell? ⟨B, o, none⟩ = some cv := by
  have hb : W'.heap[B]? = W.heap[B]? := g.block B b.lB (fun e => b.tB.ne b.ow he e.symm)
  exact ⟨(World.frozen?_of_block (a := ⟨B, o, none⟩) hb).trans b.f, (World.cell?_of_block (a := ⟨B, o, none⟩) hb).trans b.cl⟩
theorem own_form {N : Nat} {e : TypeId} {v : Value} {k : Nat} {W : World} (h : OwnI N e v (k + 1) W) : ∃ g cap, v = .slice (some ⟨g, 0, none⟩) (k + 1) cap := by
  obtain ⟨xs, ow, _⟩ := h
  rcases ow.2 with ⟨_, h⟩ | ⟨g, cap, _, h, _⟩
  · omega
  · exact ⟨g, cap, h⟩
theorem prcF_0 {B T : Nat} {lo hi : Int} : (⟨B, 0, Is (.int .i64 lo)⟩ : Sp) ∈ prcF B T lo hi := by simp [prcF]
theorem prcF_1 {B T : Nat} {lo hi : Int} : (⟨B, 1, Is (.int .i64 hi)⟩ : Sp) ∈ prcF B T lo hi := by simp [prcF]
theorem prcF_T {B T : Nat} {lo hi : Int} : (⟨T, 0, AnyV⟩ : Sp) ∈ prcF B T lo hi ∧ (⟨T, 1, AnyV⟩ : Sp) ∈ prcF B T lo hi ∧ (⟨T, 2, AnyV⟩ : Sp) ∈ prcF B T lo hi := by simp [prcF]
/-- The store comes behind the call. -/
def Aft (ca st : Nat) (L : Nat → Bool) : Prop := L st = true → L ca = true
theorem Aft.start (ca st : Nat) : Aft ca st (fun _ => false) := fun h => by cases h
theorem Aft.step {ca st i : Nat} {L : Nat → Bool} (h : Aft ca st L) (h1 : i ≠ st) : Aft ca st (upd L i true) := by
  intro k
  rw [upd_other _ _ (Ne.symm h1)] at k
  exact upd_up (h k)
theorem Aft.sto {ca st : Nat} {L : Nat → Bool} (h : L ca = true) : Aft ca st (upd L st true) := fun _ => upd_up h
theorem Aft.no {ca st : Nat} {L : Nat → Bool} (h : Aft ca st L) (h1 : L ca = false) : L st = false := by
  cases e : L st with
  | false => rfl
  | true => rw [h e] at h1; cases h1
end Go.Proofs.Ytiehokibfdaleaa
