/- Lists of steps of a call's own beside a reader: an append within a region that draws its order. No program in it. · Lists of pairs of a call's own beside a reader: an append within a region that draws its order; the box in which a drawn state's bounds grow. -/
import Derived.Test.YtiehokibfdaleaaG5
namespace Go.Proofs.Ytiehokibfdaleaa
open Go.ChangeShapes Go.WideShapes Go.ChangeAt Go.RowKit

/-- append to a list of the call's own, with room or without, as one operation of a region that is looked at once. -/
theorem wpAt_own_append {P : Program} {ops : Array Oper} {o : Oper} {a : Act} {w : World} {Q : Exit → Act → World → Prop} {ix d : Nat} {R : Value → World → Prop}
    (hi : ops[ix]? = some o) (hd : o.dst = some d) (hg : o.guard = none) (hlt : d < a.tmps.size) (s x : Operand) (t : TypeId) (hop : o.op = Op.call { callee := Callee.builtin Builtin.append, args := #[s, x], argTypes := #[t, t] })
    (base : Nat) (e : TypeId) (i : TypeInfo) (z : Value) (size bytes : Nat) (h1 : P.underlying t = some (.slice e)) (h2 : P.info? e = some i) (h3 : i.zero = some z) (h4 : i.size = size) (h5 : i.bytes = bytes) (h6 : z.cells.size = size) (h7 : 0 < size)
    (v : Value) (n : Nat) (xs : List Value) (hs : a.eval s = v) (hown : w.ownsRow base e size v n xs)
    (ad : Addr) (m c : Nat) (news : List Value) (hx : a.eval x = .slice (some ad) m c) (hn : news.length = m * size) (hc : ∀ j u, news[j]? = some u → w.cell? (ad.add j) = some u) (h1c : ∀ u ∈ news, u.oneCell' = true)
    (b1 : n + m ≤ maxLen) (b2 : (n + m) * bytes ≤ 140737488355328) (hbase : base ≤ w.heap.size)
    (hK : ∀ v' w', w'.ownsRow base e size v' (n + m) (xs ++ news) → w.grownBy w' v.ownBlock → R v' w') :
    wpAt P ops Q ix R a w := by
  refine wpAt_of hi hd ?_
  refine wpList_append_own w hg s x t hop base e i z size bytes h1 h2 h3 h4 h5 h6 h7 v n xs hs hown ad m c news hx hn hc h1c b1 b2 hbase (fun v' w' r1 r2 _ => ?_)
  have h := hK v' w' r1 r2
  rw [hd]
  simp [wpList, Exit.then, Act.put, hlt]
  exact h
/-- v is a list of k steps of the call's own, made at or behind N. -/
def OwnI (N : Nat) (e : TypeId) (v : Value) (k : Nat) (W : World) : Prop := ∃ xs, W.ownsRow N e 8 v k xs ∧ ∀ x ∈ xs, IsI x
theorem OwnI.keep {N : Nat} {e : TypeId} {v : Value} {k : Nat} {W W' : World} (h : OwnI N e v k W) (hb : ∀ g, v.ownBlock = some g → W'.heap[g]? = W.heap[g]?) : OwnI N e v k W' := by
  obtain ⟨xs, h, hx⟩ := h
  refine ⟨xs, ⟨h.1, ?_⟩, hx⟩
  rcases h.2 with h2 | ⟨g, cap, cur, h1, h2, h3, h4⟩
  · exact .inl h2
  · exact .inr ⟨g, cap, cur, h1, h2, (hb g (by rw [h1]; rfl)).trans h3, h4⟩
theorem OwnI.blk {N : Nat} {e : TypeId} {v : Value} {k g : Nat} {W : World} (h : OwnI N e v k W) (hg : v.ownBlock = some g) : N ≤ g ∧ g < W.heap.size ∧ ∃ cur, W.heap[g]? = some (.cells cur e (0, 0)) := by
  obtain ⟨xs, h, _⟩ := h
  have := World.ownsRow.lt h g hg
  rcases h.2 with ⟨rfl, _⟩ | ⟨g', cap, cur, rfl, h2, h3, h4⟩
  · simp [Value.ownBlock] at hg
  · simp [Value.ownBlock] at hg
    subst hg
    exact ⟨this.1, this.2, cur, h3⟩
theorem OwnI.nil (N : Nat) (e : TypeId) (W : World) : OwnI N e (.slice none 0 0) 0 W := ⟨[], World.ownsRow_nil _ _ _ _, fun _ h => by cases h⟩
theorem OwnI.weaken {N M : Nat} {e : TypeId} {v : Value} {k : Nat} {W : World} (h : OwnI N e v k W) (hM : M ≤ N) : OwnI M e v k W := by
  obtain ⟨xs, h, hx⟩ := h
  refine ⟨xs, ⟨h.1, ?_⟩, hx⟩
  rcases h.2 with h2 | ⟨g, cap, cur, h1, h2, h3⟩
  · exact .inl h2
  · exact .inr ⟨g, cap, cur, h1, Nat.le_trans hM h2, h3⟩
theorem OwnI.grown {N R : Nat} {e : TypeId} {v : Value} {k : Nat} {W W' : World} (h : OwnI N e v k W) (hR : R < N) (g : W.grownBy W' (some R)) : OwnI N e v k W' :=
  h.keep fun b hb => g.block b (h.blk hb).2.1 (fun e => by injection e with e; have := (h.blk hb).1; omega)
/-- The block's element type. -/
def Typ (B : Nat) (eB : TypeId) (W : World) : Prop := ∃ cur fr, W.heap[B]? = some (.cells cur eB fr)
theorem Typ.ne {N B : Nat} {e eB : TypeId} {v : Value} {k : Nat} {W : World} (h : Typ B eB W) (ho : OwnI N e v k W) (he : eB ≠ e) : v.ownBlock ≠ some B := by
  intro hb
  obtain ⟨cur, hc⟩ := (ho.blk hb).2.2
  obtain ⟨c', fr, hf⟩ := h
  rw [hc] at hf
  injection hf with hf
  injection hf with _ hf
  exact he hf.symm
theorem Typ.keep {B : Nat} {eB : TypeId} {W W' : World} (h : Typ B eB W) (hb : W'.heap[B]? = W.heap[B]?) : Typ B eB W' := by
  obtain ⟨c, f, h⟩ := h
  exact ⟨c, f, hb.trans h⟩
theorem Typ.set {B : Nat} {eB : TypeId} {W : World} (h : Typ B eB W) (p : Addr) (v : Value) : Typ B eB (W.setCell p v) := by
  obtain ⟨c, f, h⟩ := h
  by_cases e : p.block = B
  · refine ⟨if p.spot.isSome then c else c.setIfInBounds p.off v, f, ?_⟩
    show (W.heap.modify p.block _)[B]? = _
    rw [Array.getElem?_modify, if_pos e, h]
    rfl
  · exact ⟨c, f, (Below.heap_setCell W p v B (fun x => e x.symm)).trans h⟩

/-- How operation i of such a region may turn the world: the reader, the box; the list's own block by the append alone. -/
def TA (R B : Nat) (ob : Option Nat) (ap i : Nat) (W W' : World) : Prop := W.heap.size ≤ W'.heap.size ∧ ∀ b, b < W.heap.size → b ≠ R → b ≠ B → (i = ap → some b ≠ ob) → W'.heap[b]? = W.heap[b]?
theorem TA.refl (R B : Nat) (ob : Option Nat) (ap i : Nat) (W : World) : TA R B ob ap i W W := ⟨Nat.le_refl _, fun _ _ _ _ _ => rfl⟩
theorem TA.of {R B : Nat} {ob : Option Nat} {ap i : Nat} {W W' : World} (g : W.grownBy W' (some R)) : TA R B ob ap i W W' := ⟨g.size, fun b hb h1 _ _ => g.block b hb (fun e => h1 (by injection e))⟩
theorem TA.app {R B : Nat} {ob : Option Nat} {ap : Nat} {W W' : World} (g : W.grownBy W' ob) : TA R B ob ap ap W W' := ⟨g.size, fun b hb _ _ h => g.block b hb (h rfl)⟩
theorem TA.sto {R B o : Nat} {ob : Option Nat} {ap i : Nat} {W : World} {v : Value} : TA R B ob ap i W (W.setCell ⟨B, o, none⟩ v) := ⟨by simp [World.setCell], fun b _ _ h2 _ => Below.heap_setCell W _ v b h2⟩
/-- The one step that is appended, in a block of its own. -/
def New1 (R B N : Nat) (ob : Option Nat) (v : Value) (W : World) : Prop := ∃ g x0 x1 x2 x3 x4 x5 x6 x7, v = .slice (some ⟨g, 0, none⟩) 1 1 ∧ N ≤ g ∧ g < W.heap.size ∧ g ≠ R ∧ g ≠ B ∧ ob ≠ some g ∧ (IsI x0 ∧ IsI x1 ∧ IsI x2 ∧ IsI x3 ∧ IsI x4 ∧ IsI x5 ∧ IsI x6 ∧ IsI x7) ∧ ∀ j u, [x0, x1, x2, x3, x4, x5, x6, x7][j]? = some u → W.cell? ⟨g, j, none⟩ = some u
theorem New1.next {R B N ap i : Nat} {ob : Option Nat} {v : Value} {W W' : World} (h : New1 R B N ob v W) (t : TA R B ob ap i W W') : New1 R B N ob v W' := by
  obtain ⟨g, x0, x1, x2, x3, x4, x5, x6, x7, e, h1, h2, h3, h4, h5, h6, h7⟩ := h
  have hb := t.2 g h2 h3 h4 (fun _ e => h5 e.symm)
  exact ⟨g, x0, x1, x2, x3, x4, x5, x6, x7, e, h1, Nat.lt_of_lt_of_le h2 t.1, h3, h4, h5, h6, fun j u hu => (World.cell?_of_block (a := ⟨g, j, none⟩) hb).trans (h7 j u hu)⟩
theorem New1.made {R B N : Nat} {ob : Option Nat} {W : World} {t : TypeId} {x0 x1 x2 x3 x4 x5 x6 x7 : Value} (hN : N ≤ W.heap.size) (hR : R < W.heap.size) (hB : B < W.heap.size) (ho : ∀ g, ob = some g → g < W.heap.size) (i0 : IsI x0) (i1 : IsI x1) (i2 : IsI x2) (i3 : IsI x3) (i4 : IsI x4) (i5 : IsI x5) (i6 : IsI x6) (i7 : IsI x7) : New1 R B N ob (.slice (some ⟨W.heap.size, 0, none⟩) 1 1) (W.alloc (.cells #[x0, x1, x2, x3, x4, x5, x6, x7] t)) :=
  ⟨W.heap.size, x0, x1, x2, x3, x4, x5, x6, x7, rfl, hN, by simp, by omega, by omega, fun e => by have := ho _ e; omega, ⟨i0, i1, i2, i3, i4, i5, i6, i7⟩, fun j u hu => by
    unfold World.cell?
    rw [heap_alloc_new]
    simpa using hu⟩
/-- The list behind the append. -/
def AppV (N : Nat) (e : TypeId) (k R B : Nat) (v : Value) (W : World) : Prop := OwnI N e v k W ∧ v.ownBlock ≠ some R ∧ v.ownBlock ≠ some B
theorem AppV.next {N k R B ap i : Nat} {e : TypeId} {ob : Option Nat} {v : Value} {W W' : World} (h : AppV N e k R B v W) (t : TA R B ob ap i W W') (hi : i ≠ ap) : AppV N e k R B v W' :=
  ⟨h.1.keep fun g hg => t.2 g (h.1.blk hg).2.1 (fun x => h.2.1 (by rw [hg, x])) (fun x => h.2.2 (by rw [hg, x])) (fun x => absurd x hi), h.2⟩

/-- What such a region holds: the reader with its budget, the cells F, the box's cell, the list. ap: the append, st: the store. -/
structure ApS (w : World) (R : Nat) (a : Option Addr) (m c : Nat) (z : Nat → Int) (Q K n : Nat) (F : List Sp) (B T o N : Nat) (eB e : TypeId) (cv : Value) (k ap st : Nat) (L : Nat → Bool) (W : World) : Prop where
  ds : DS w R a m c z Q K n F L W
  lB : B < W.heap.size
  typ : Typ B eB W
  lT : T < W.heap.size
  typT : Typ T eB W
  free : W.frozen? ⟨B, o, none⟩ = false
  cell : L st = false → W.cell? ⟨B, o, none⟩ = some cv
  own : L ap = false → OwnI N e cv k W
  done : L st = true → ∃ v, W.cell? ⟨B, o, none⟩ = some v ∧ OwnI N e v (k + 1) W
theorem ApS.next {w : World} {R : Nat} {a : Option Addr} {m c : Nat} {z : Nat → Int} {Q K n : Nat} {F : List Sp} {B T o N : Nat} {eB e : TypeId} {cv : Value} {k ap st : Nat} {L : Nat → Bool} {W W' : World} (h : ApS w R a m c z Q K n F B T o N eB e cv k ap st L W) {i : Nat} (hia : i ≠ ap) (his : i ≠ st) (hBR : B ≠ R) (hTR : T ≠ R) (hRN : R < N) (g : W.grownBy W' (some R)) (hd : DS w R a m c z Q K n F (upd L i true) W') : ApS w R a m c z Q K n F B T o N eB e cv k ap st (upd L i true) W' := by
  have hb : W'.heap[B]? = W.heap[B]? := g.block B h.lB (fun e => hBR (by injection e))
  have ht : W'.heap[T]? = W.heap[T]? := g.block T h.lT (fun e => hTR (by injection e))
  refine ⟨hd, Nat.lt_of_lt_of_le h.lB g.size, h.typ.keep hb, Nat.lt_of_lt_of_le h.lT g.size, h.typT.keep ht, (World.frozen?_of_block (a := ⟨B, o, none⟩) hb).trans h.free, fun hl => ?_, fun hl => ?_, fun hl => ?_⟩
  · rw [upd_other _ _ (Ne.symm his)] at hl
    exact (World.cell?_of_block (a := ⟨B, o, none⟩) hb).trans (h.cell hl)
  · rw [upd_other _ _ (Ne.symm hia)] at hl
    exact (h.own hl).grown hRN g
  · rw [upd_other _ _ (Ne.symm his)] at hl
    obtain ⟨v, h1, h2⟩ := h.done hl
    exact ⟨v, (World.cell?_of_block (a := ⟨B, o, none⟩) hb).trans h1, h2.grown hRN g⟩
theorem grownBy_refl (W : World) (r : Option Nat) : W.grownBy W r := ⟨rfl, rfl, rfl, Nat.le_refl _, fun _ _ _ => rfl⟩
theorem ApS.pure {w : World} {R : Nat} {a : Option Addr} {m c : Nat} {z : Nat → Int} {Q K n : Nat} {F : List Sp} {B T o N : Nat} {eB e : TypeId} {cv : Value} {k ap st : Nat} {L : Nat → Bool} {W : World} (h : ApS w R a m c z Q K n F B T o N eB e cv k ap st L W) {i : Nat} (hL : L i = false) (hi : i < n) (hia : i ≠ ap) (his : i ≠ st) (hBR : B ≠ R) (hTR : T ≠ R) (hRN : R < N) : ApS w R a m c z Q K n F B T o N eB e cv k ap st (upd L i true) W :=
  h.next hia his hBR hTR hRN (grownBy_refl _ _) (h.ds.pure hL hi)
theorem ApS.alloc {w : World} {R : Nat} {a : Option Addr} {m c : Nat} {z : Nat → Int} {Q K n : Nat} {F : List Sp} {B T o N : Nat} {eB e : TypeId} {cv : Value} {k ap st : Nat} {L : Nat → Bool} {W : World} (h : ApS w R a m c z Q K n F B T o N eB e cv k ap st L W) {i : Nat} (hL : L i = false) (hi : i < n) (hia : i ≠ ap) (his : i ≠ st) (hBR : B ≠ R) (hTR : T ≠ R) (hRN : R < N) (ob : Obj) : ApS w R a m c z Q K n F B T o N eB e cv k ap st (upd L i true) (W.alloc ob) :=
  h.next hia his hBR hTR hRN (World.grownBy_alloc _ _ _) (h.ds.alloc hL hi ob)
theorem ApS.call {w : World} {R : Nat} {a : Option Addr} {m c : Nat} {z : Nat → Int} {Q K n : Nat} {F : List Sp} {B T o N : Nat} {eB e : TypeId} {cv : Value} {k ap st : Nat} {L : Nat → Bool} {W W' : World} (h : ApS w R a m c z Q K n F B T o N eB e cv k ap st L W) {i p : Nat} (hL : L i = false) (hi : i < n) (hia : i ≠ ap) (his : i ≠ st) (hBR : B ≠ R) (hTR : T ≠ R) (hRN : R < N) (hr : Rd W' R a m c z p) (g : W.grownBy W' (some R)) (hp : p ≤ Q + K * cnt L n + K) : ApS w R a m c z Q K n F B T o N eB e cv k ap st (upd L i true) W' :=
  h.next hia his hBR hTR hRN g (h.ds.call hL hi hr g hp)
theorem ApS.app {w : World} {R : Nat} {a : Option Addr} {m c : Nat} {z : Nat → Int} {Q K n : Nat} {F : List Sp} {B T o N : Nat} {eB e : TypeId} {cv : Value} {k ap st : Nat} {L : Nat → Bool} {W W' : World} (h : ApS w R a m c z Q K n F B T o N eB e cv k ap st L W) (hL : L ap = false) (hn : ap < n) (hs : L st = false) (hne : st ≠ ap) (he : eB ≠ e) (hRN : R < N) (hwN : w.heap.size ≤ N) (hF : ∀ f ∈ F, f.b = B ∨ f.b = T) (g : W.grownBy W' cv.ownBlock) : ApS w R a m c z Q K n F B T o N eB e cv k ap st (upd L ap true) W' := by
  have ho := h.own hL
  have hob := h.typ.ne ho he
  have hobT := h.typT.ne ho he
  have ht : W'.heap[T]? = W.heap[T]? := g.block T h.lT (fun e => hobT e.symm)
  have hb : W'.heap[B]? = W.heap[B]? := g.block B h.lB (fun e => hob e.symm)
  obtain ⟨p, hp, hr⟩ := h.ds.rd
  have hlt : ∀ j, cv.ownBlock = some j → N ≤ j := fun j hj => (ho.blk hj).1
  have d1 : DS w R a m c z Q K n F L W' := ⟨⟨p, hp, hr.kept g (fun j hj => by have := hlt j hj; omega)⟩, grown_own h.ds.grown g (fun j hj => by have := hlt j hj; omega), fun f hf => by
    obtain ⟨h1, h2, h3, h4, v, h5, h6⟩ := h.ds.fs f hf
    have hfb : W'.heap[f.b]? = W.heap[f.b]? := by
      rcases hF f hf with x | x
      · rw [x]; exact hb
      · rw [x]; exact ht
    exact ⟨h1, h2, Nat.lt_of_lt_of_le h3 g.size, (World.frozen?_of_block (a := ⟨f.b, f.o, none⟩) hfb).trans h4, v, (World.cell?_of_block (a := ⟨f.b, f.o, none⟩) hfb).trans h5, h6⟩⟩
  refine ⟨d1.pure hL hn, Nat.lt_of_lt_of_le h.lB g.size, h.typ.keep hb, Nat.lt_of_lt_of_le h.lT g.size, h.typT.keep ht, (World.frozen?_of_block (a := ⟨B, o, none⟩) hb).trans h.free, fun _ => (World.cell?_of_block (a := ⟨B, o, none⟩) hb).trans (h.cell hs), fun hl => ?_, fun hl => ?_⟩
  · rw [upd_same] at hl; cases hl
  · rw [upd_other _ _ hne, hs] at hl; cases hl
theorem ApS.sto {w : World} {R : Nat} {a : Option Addr} {m c : Nat} {z : Nat → Int} {Q K n : Nat} {F : List Sp} {B T o N : Nat} {eB e : TypeId} {cv : Value} {k ap st : Nat} {L : Nat → Bool} {W : World} (h : ApS w R a m c z Q K n F B T o N eB e cv k ap st L W) (hL : L st = false) (hn : st < n) (hap : L ap = true) (hne : st ≠ ap) (hBR : B ≠ R) (hw : w.heap.size ≤ B) (hF : ∀ f ∈ F, f.b = B → f.o ≠ o) (hold : Old w a m) {v : Value} (hv : AppV N e (k + 1) R B v W) (hc : (W.cell? ⟨B, o, none⟩).isSome = true) : ApS w R a m c z Q K n F B T o N eB e cv k ap st (upd L st true) (W.setCell ⟨B, o, none⟩ v) := by
  refine ⟨(h.ds.set hold hBR hw (fun f hf hfb h => absurd h (hF f hf hfb))).pure hL hn, by simpa [World.setCell] using h.lB, h.typ.set _ _, by simpa [World.setCell] using h.lT, h.typT.set _ _, (World.frozen?_setCell ..).trans h.free, fun hl => ?_, fun hl => ?_, fun _ => ⟨v, cell_set hc, hv.1.keep fun g hg => Below.heap_setCell W _ v g (fun x => hv.2.2 (by rw [hg, x]))⟩⟩
  · rw [upd_same] at hl; cases hl
  · rw [upd_other _ _ (Ne.symm hne), hap] at hl; cases hl
/-- What must be done ahead of the append and of the store. -/
def Ord (ld bs ap st : Nat) (L : Nat → Bool) : Prop := (L st = true → L ld = true ∧ L ap = true) ∧ (L ap = true → L bs = true)
theorem upd_up {L : Nat → Bool} {i j : Nat} (h : L j = true) : upd L i true j = true := by
  by_cases e : j = i
  · subst e; exact upd_same _ _ _
  · rw [upd_other _ _ e]; exact h
theorem Ord.start (ld bs ap st : Nat) : Ord ld bs ap st (fun _ => false) := ⟨(fun h => by cases h), (fun h => by cases h)⟩
theorem Ord.step {ld bs ap st i : Nat} {L : Nat → Bool} (h : Ord ld bs ap st L) (h1 : i ≠ st) (h2 : i ≠ ap) : Ord ld bs ap st (upd L i true) := by
  refine ⟨fun k => ?_, fun k => ?_⟩
  · rw [upd_other _ _ (Ne.symm h1)] at k
    exact ⟨upd_up (h.1 k).1, upd_up (h.1 k).2⟩
  · rw [upd_other _ _ (Ne.symm h2)] at k
    exact upd_up (h.2 k)
theorem Ord.app {ld bs ap st : Nat} {L : Nat → Bool} (h : Ord ld bs ap st L) (h1 : ap ≠ st) (hb : L bs = true) : Ord ld bs ap st (Go.Proofs.Ytiehokibfdaleaa.upd L ap true) := by
  refine ⟨fun k => ?_, fun _ => upd_up hb⟩
  rw [upd_other _ _ (Ne.symm h1)] at k
  exact ⟨upd_up (h.1 k).1, upd_up (h.1 k).2⟩
theorem Ord.sto {ld bs ap st : Nat} {L : Nat → Bool} (h : Ord ld bs ap st L) (hl : L ld = true) (ha : L ap = true) : Ord ld bs ap st (Go.Proofs.Ytiehokibfdaleaa.upd L st true) := ⟨fun _ => ⟨upd_up hl, upd_up ha⟩, fun _ => upd_up (h.2 ha)⟩
end Go.Proofs.Ytiehokibfdaleaa
namespace Go.Proofs.Ytiehokibfdaleaa
open Go.ChangeShapes Go.WideShapes Go.ChangeAt Go.RowKit

/-- v is a list of k pairs of the call's own, made at or behind N. -/
def OwnQ (N : Nat) (e : TypeId) (v : Value) (k : Nat) (W : World) : Prop := ∃ xs, W.ownsRow N e 2 v k xs ∧ ∀ x ∈ xs, IsI x
theorem OwnQ.keep {N : Nat} {e : TypeId} {v : Value} {k : Nat} {W W' : World} (h : OwnQ N e v k W) (hb : ∀ g, v.ownBlock = some g → W'.heap[g]? = W.heap[g]?) : OwnQ N e v k W' := by
  obtain ⟨xs, h, hx⟩ := h
  refine ⟨xs, ⟨h.1, ?_⟩, hx⟩
  rcases h.2 with h2 | ⟨g, cap, cur, h1, h2, h3, h4⟩
  · exact .inl h2
  · exact .inr ⟨g, cap, cur, h1, h2, (hb g (by rw [h1]; rfl)).trans h3, h4⟩
theorem OwnQ.blk {N : Nat} {e : TypeId} {v : Value} {k g : Nat} {W : World} (h : OwnQ N e v k W) (hg : v.ownBlock = some g) : N ≤ g ∧ g < W.heap.size ∧ ∃ cur, W.heap[g]? = some (.cells cur e (0, 0)) := by
  obtain ⟨xs, h, _⟩ := h
  have := World.ownsRow.lt h g hg
  rcases h.2 with ⟨rfl, _⟩ | ⟨g', cap, cur, rfl, h2, h3, h4⟩
  · simp [Value.ownBlock] at hg
  · simp [Value.ownBlock] at hg
    subst hg
    exact ⟨this.1, this.2, cur, h3⟩
theorem OwnQ.nil (N : Nat) (e : TypeId) (W : World) : OwnQ N e (.slice none 0 0) 0 W := ⟨[], World.ownsRow_nil _ _ _ _, fun _ h => by cases h⟩
theorem OwnQ.weaken {N M : Nat} {e : TypeId} {v : Value} {k : Nat} {W : World} (h : OwnQ N e v k W) (hM : M ≤ N) : OwnQ M e v k W := by
  obtain ⟨xs, h, hx⟩ := h
  refine ⟨xs, ⟨h.1, ?_⟩, hx⟩
  rcases h.2 with h2 | ⟨g, cap, cur, h1, h2, h3⟩
  · exact .inl h2
  · exact .inr ⟨g, cap, cur, h1, Nat.le_trans hM h2, h3⟩
theorem OwnQ.grown {N R : Nat} {e : TypeId} {v : Value} {k : Nat} {W W' : World} (h : OwnQ N e v k W) (hR : R < N) (g : W.grownBy W' (some R)) : OwnQ N e v k W' :=
  h.keep fun b hb => g.block b (h.blk hb).2.1 (fun e => by injection e with e; have := (h.blk hb).1; omega)
theorem Typ.neQ {N B : Nat} {e eB : TypeId} {v : Value} {k : Nat} {W : World} (h : Typ B eB W) (ho : OwnQ N e v k W) (he : eB ≠ e) : v.ownBlock ≠ some B := by
  intro hb
  obtain ⟨cur, hc⟩ := (ho.blk hb).2.2
  obtain ⟨c', fr, hf⟩ := h
  rw [hc] at hf
  injection hf with hf
  injection hf with _ hf
  exact he hf.symm
/-- The one pair that is appended, in a block of its own. -/
def NewQ (R B N : Nat) (ob : Option Nat) (v : Value) (W : World) : Prop := ∃ g x0 x1, v = .slice (some ⟨g, 0, none⟩) 1 1 ∧ N ≤ g ∧ g < W.heap.size ∧ g ≠ R ∧ g ≠ B ∧ ob ≠ some g ∧ (IsI x0 ∧ IsI x1) ∧ ∀ j u, [x0, x1][j]? = some u → W.cell? ⟨g, j, none⟩ = some u
theorem NewQ.next {R B N ap i : Nat} {ob : Option Nat} {v : Value} {W W' : World} (h : NewQ R B N ob v W) (t : TA R B ob ap i W W') : NewQ R B N ob v W' := by
  obtain ⟨g, x0, x1, e, h1, h2, h3, h4, h5, h6, h7⟩ := h
  have hb := t.2 g h2 h3 h4 (fun _ e => h5 e.symm)
  exact ⟨g, x0, x1, e, h1, Nat.lt_of_lt_of_le h2 t.1, h3, h4, h5, h6, fun j u hu => (World.cell?_of_block (a := ⟨g, j, none⟩) hb).trans (h7 j u hu)⟩
theorem NewQ.made {R B N : Nat} {ob : Option Nat} {W : World} {t : TypeId} {x0 x1 : Value} (hN : N ≤ W.heap.size) (hR : R < W.heap.size) (hB : B < W.heap.size) (ho : ∀ g, ob = some g → g < W.heap.size) (i0 : IsI x0) (i1 : IsI x1) : NewQ R B N ob (.slice (some ⟨W.heap.size, 0, none⟩) 1 1) (W.alloc (.cells #[x0, x1] t)) :=
  ⟨W.heap.size, x0, x1, rfl, hN, by simp, by omega, by omega, fun e => by have := ho _ e; omega, ⟨i0, i1⟩, fun j u hu => by
    unfold World.cell?
    rw [heap_alloc_new]
    simpa using hu⟩
theorem cellsQ {W : World} {g : Nat} {y0 y1 : Value} (h : ∀ j u, [y0, y1][j]? = some u → W.cell? ⟨g, j, none⟩ = some u) : ∀ j u, [y0, y1][j]? = some u → W.cell? ((⟨g, 0, none⟩ : Addr).add j) = some u := by
  intro j u hj
  match j, hj with
  | 0, hj => simpa [Addr.add] using h 0 u hj
  | 1, hj => simpa [Addr.add] using h 1 u hj
  | _ + 2, hj => simp at hj
theorem allQ {P : Value → Prop} {y0 y1 : Value} (h0 : P y0) (h1 : P y1) : ∀ x ∈ [y0, y1], P x := by
  intro x hx
  simp only [List.mem_cons, List.not_mem_nil, or_false] at hx
  rcases hx with rfl | rfl <;> assumption
theorem isI_oneQ {v : Value} (h : IsI v) : v.oneCell' = true := by
  obtain ⟨n, rfl, _⟩ := h
  rfl
/-- The list behind the append. -/
def AppQ (N : Nat) (e : TypeId) (k R B : Nat) (v : Value) (W : World) : Prop := OwnQ N e v k W ∧ v.ownBlock ≠ some R ∧ v.ownBlock ≠ some B
theorem AppQ.next {N k R B ap i : Nat} {e : TypeId} {ob : Option Nat} {v : Value} {W W' : World} (h : AppQ N e k R B v W) (t : TA R B ob ap i W W') (hi : i ≠ ap) : AppQ N e k R B v W' :=
  ⟨h.1.keep fun g hg => t.2 g (h.1.blk hg).2.1 (fun x => h.2.1 (by rw [hg, x])) (fun x => h.2.2 (by rw [hg, x])) (fun x => absurd x hi), h.2⟩
/-- What such a region holds: the reader with its budget, the cells F, the box's cell, the list. ap: the append, st: the store. -/
structure ApQ (w : World) (R : Nat) (a : Option Addr) (m c : Nat) (z : Nat → Int) (Q K n : Nat) (F : List Sp) (B T o N : Nat) (eB e : TypeId) (cv : Value) (k ap st : Nat) (L : Nat → Bool) (W : World) : Prop where
  ds : DS w R a m c z Q K n F L W
  lB : B < W.heap.size
  typ : Typ B eB W
  lT : T < W.heap.size
  typT : Typ T eB W
  free : W.frozen? ⟨B, o, none⟩ = false
  cell : L st = false → W.cell? ⟨B, o, none⟩ = some cv
  own : L ap = false → OwnQ N e cv k W
  done : L st = true → ∃ v, W.cell? ⟨B, o, none⟩ = some v ∧ OwnQ N e v (k + 1) W
theorem ApQ.next {w : World} {R : Nat} {a : Option Addr} {m c : Nat} {z : Nat → Int} {Q K n : Nat} {F : List Sp} {B T o N : Nat} {eB e : TypeId} {cv : Value} {k ap st : Nat} {L : Nat → Bool} {W W' : World} (h : ApQ w R a m c z Q K n F B T o N eB e cv k ap st L W) {i : Nat} (hia : i ≠ ap) (his : i ≠ st) (hBR : B ≠ R) (hTR : T ≠ R) (hRN : R < N) (g : W.grownBy W' (some R)) (hd : DS w R a m c z Q K n F (upd L i true) W') : ApQ w R a m c z Q K n F B T o N eB e cv k ap st (upd L i true) W' := by
  have hb : W'.heap[B]? = W.heap[B]? := g.block B h.lB (fun e => hBR (by injection e))
  have ht : W'.heap[T]? = W.heap[T]? := g.block T h.lT (fun e => hTR (by injection e))
  refine ⟨hd, Nat.lt_of_lt_of_le h.lB g.size, h.typ.keep hb, Nat.lt_of_lt_of_le h.lT g.size, h.typT.keep ht, (World.frozen?_of_block (a := ⟨B, o, none⟩) hb).trans h.free, fun hl => ?_, fun hl => ?_, fun hl => ?_⟩
  · rw [upd_other _ _ (Ne.symm his)] at hl
    exact (World.cell?_of_block (a := ⟨B, o, none⟩) hb).trans (h.cell hl)
  · rw [upd_other _ _ (Ne.symm hia)] at hl
    exact (h.own hl).grown hRN g
  · rw [upd_other _ _ (Ne.symm his)] at hl
    obtain ⟨v, h1, h2⟩ := h.done hl
    exact ⟨v, (World.cell?_of_block (a := ⟨B, o, none⟩) hb).trans h1, h2.grown hRN g⟩
theorem ApQ.pure {w : World} {R : Nat} {a : Option Addr} {m c : Nat} {z : Nat → Int} {Q K n : Nat} {F : List Sp} {B T o N : Nat} {eB e : TypeId} {cv : Value} {k ap st : Nat} {L : Nat → Bool} {W : World} (h : ApQ w R a m c z Q K n F B T o N eB e cv k ap st L W) {i : Nat} (hL : L i = false) (hi : i < n) (hia : i ≠ ap) (his : i ≠ st) (hBR : B ≠ R) (hTR : T ≠ R) (hRN : R < N) : ApQ w R a m c z Q K n F B T o N eB e cv k ap st (upd L i true) W :=
  h.next hia his hBR hTR hRN (grownBy_refl _ _) (h.ds.pure hL hi)
theorem ApQ.alloc {w : World} {R : Nat} {a : Option Addr} {m c : Nat} {z : Nat → Int} {Q K n : Nat} {F : List Sp} {B T o N : Nat} {eB e : TypeId} {cv : Value} {k ap st : Nat} {L : Nat → Bool} {W : World} (h : ApQ w R a m c z Q K n F B T o N eB e cv k ap st L W) {i : Nat} (hL : L i = false) (hi : i < n) (hia : i ≠ ap) (his : i ≠ st) (hBR : B ≠ R) (hTR : T ≠ R) (hRN : R < N) (ob : Obj) : ApQ w R a m c z Q K n F B T o N eB e cv k ap st (upd L i true) (W.alloc ob) :=
  h.next hia his hBR hTR hRN (World.grownBy_alloc _ _ _) (h.ds.alloc hL hi ob)
theorem ApQ.call {w : World} {R : Nat} {a : Option Addr} {m c : Nat} {z : Nat → Int} {Q K n : Nat} {F : List Sp} {B T o N : Nat} {eB e : TypeId} {cv : Value} {k ap st : Nat} {L : Nat → Bool} {W W' : World} (h : ApQ w R a m c z Q K n F B T o N eB e cv k ap st L W) {i p : Nat} (hL : L i = false) (hi : i < n) (hia : i ≠ ap) (his : i ≠ st) (hBR : B ≠ R) (hTR : T ≠ R) (hRN : R < N) (hr : Rd W' R a m c z p) (g : W.grownBy W' (some R)) (hp : p ≤ Q + K * cnt L n + K) : ApQ w R a m c z Q K n F B T o N eB e cv k ap st (upd L i true) W' :=
  h.next hia his hBR hTR hRN g (h.ds.call hL hi hr g hp)
theorem ApQ.app {w : World} {R : Nat} {a : Option Addr} {m c : Nat} {z : Nat → Int} {Q K n : Nat} {F : List Sp} {B T o N : Nat} {eB e : TypeId} {cv : Value} {k ap st : Nat} {L : Nat → Bool} {W W' : World} (h : ApQ w R a m c z Q K n F B T o N eB e cv k ap st L W) (hL : L ap = false) (hn : ap < n) (hs : L st = false) (hne : st ≠ ap) (he : eB ≠ e) (hRN : R < N) (hwN : w.heap.size ≤ N) (hF : ∀ f ∈ F, f.b = B ∨ f.b = T) (g : W.grownBy W' cv.ownBlock) : ApQ w R a m c z Q K n F B T o N eB e cv k ap st (upd L ap true) W' := by
  have ho := h.own hL
  have hob := h.typ.neQ ho he
  have hobT := h.typT.neQ ho he
  have ht : W'.heap[T]? = W.heap[T]? := g.block T h.lT (fun e => hobT e.symm)
  have hb : W'.heap[B]? = W.heap[B]? := g.block B h.lB (fun e => hob e.symm)
  obtain ⟨p, hp, hr⟩ := h.ds.rd
  have hlt : ∀ j, cv.ownBlock = some j → N ≤ j := fun j hj => (ho.blk hj).1
  have d1 : DS w R a m c z Q K n F L W' := ⟨⟨p, hp, hr.kept g (fun j hj => by have := hlt j hj; omega)⟩, grown_own h.ds.grown g (fun j hj => by have := hlt j hj; omega), fun f hf => by
    obtain ⟨h1, h2, h3, h4, v, h5, h6⟩ := h.ds.fs f hf
    have hfb : W'.heap[f.b]? = W.heap[f.b]? := by
      rcases hF f hf with x | x
      · rw [x]; exact hb
      · rw [x]; exact ht
    exact ⟨h1, h2, Nat.lt_of_lt_of_le h3 g.size, (World.frozen?_of_block (a := ⟨f.b, f.o, none⟩) hfb).trans h4, v, (World.cell?_of_block (a := ⟨f.b, f.o, none⟩) hfb).trans h5, h6⟩⟩
  refine ⟨d1.pure hL hn, Nat.lt_of_lt_of_le h.lB g.size, h.typ.keep hb, Nat.lt_of_lt_of_le h.lT g.size, h.typT.keep ht, (World.frozen?_of_block (a := ⟨B, o, none⟩) hb).trans h.free, fun _ => (World.cell?_of_block (a := ⟨B, o, none⟩) hb).trans (h.cell hs), fun hl => ?_, fun hl => ?_⟩
  · rw [upd_same] at hl; cases hl
  · rw [upd_other _ _ hne, hs] at hl; cases hl
theorem ApQ.sto {w : World} {R : Nat} {a : Option Addr} {m c : Nat} {z : Nat → Int} {Q K n : Nat} {F : List Sp} {B T o N : Nat} {eB e : TypeId} {cv : Value} {k ap st : Nat} {L : Nat → Bool} {W : World} (h : ApQ w R a m c z Q K n F B T o N eB e cv k ap st L W) (hL : L st = false) (hn : st < n) (hap : L ap = true) (hne : st ≠ ap) (hBR : B ≠ R) (hw : w.heap.size ≤ B) (hF : ∀ f ∈ F, f.b = B → f.o ≠ o) (hold : Old w a m) {v : Value} (hv : AppQ N e (k + 1) R B v W) (hc : (W.cell? ⟨B, o, none⟩).isSome = true) : ApQ w R a m c z Q K n F B T o N eB e cv k ap st (upd L st true) (W.setCell ⟨B, o, none⟩ v) := by
  refine ⟨(h.ds.set hold hBR hw (fun f hf hfb h => absurd h (hF f hf hfb))).pure hL hn, by simpa [World.setCell] using h.lB, h.typ.set _ _, by simpa [World.setCell] using h.lT, h.typT.set _ _, (World.frozen?_setCell ..).trans h.free, fun hl => ?_, fun hl => ?_, fun _ => ⟨v, cell_set hc, hv.1.keep fun g hg => Below.heap_setCell W _ v g (fun x => hv.2.2 (by rw [hg, x]))⟩⟩
  · rw [upd_same] at hl; cases hl
  · rw [upd_other _ _ (Ne.symm hne), hap] at hl; cases hl
/-- A box of three cells, made within a call; the last one holds the code. T: the result's box. -/
structure PBq (w : World) (R : Nat) (a : Option Addr) (m c : Nat) (z : Nat → Int) (Q : Nat) (F : List Sp) (B T o N : Nat) (eB e : TypeId) (cv : Value) (k : Nat) (W : World) : Prop where
  d : Dr w R a m c z Q F W
  lB : B < W.heap.size
  tB : Typ B eB W
  lT : T < W.heap.size
  tT : Typ T eB W
  f : W.frozen? ⟨B, o, none⟩ = false
  cl : W.cell? ⟨B, o, none⟩ = some cv
  ow : OwnQ N e cv k W
theorem PBq.aps {w : World} {R : Nat} {a : Option Addr} {m c : Nat} {z : Nat → Int} {Q : Nat} {F : List Sp} {B T o N : Nat} {eB e : TypeId} {cv : Value} {k : Nat} {K n ap st : Nat} {W : World} (b : PBq w R a m c z Q F B T o N eB e cv k W) : ApQ w R a m c z Q K n F B T o N eB e cv k ap st (fun _ => false) W :=
  ⟨DS.start b.d, b.lB, b.tB, b.lT, b.tT, b.f, fun _ => b.cl, fun _ => b.ow, fun h => by cases h⟩
theorem PBq.start {w : World} {R : Nat} {a : Option Addr} {m c : Nat} {z : Nat → Int} {Q : Nat} {F : List Sp} {B T o N : Nat} {eB e : TypeId} {cv : Value} {k : Nat} {K n ap st : Nat} {W : World} (b : PBq w R a m c z Q F B T o N eB e cv k W) : ApQ w R a m c z Q K n F B T o N eB e cv k ap st (fun _ => false) W.drew :=
  ⟨DS.start b.d.drew, b.lB, b.tB, b.lT, b.tT, b.f, fun _ => b.cl, fun _ => b.ow, fun h => by cases h⟩
theorem PBq.of {w : World} {R : Nat} {a : Option Addr} {m c : Nat} {z : Nat → Int} {Q : Nat} {F : List Sp} {B T o N : Nat} {eB e : TypeId} {cv : Value} {k : Nat} {K n ap st : Nat} {L : Nat → Bool} {W : World} (h : ApQ w R a m c z Q K n F B T o N eB e cv k ap st L W) (hs : L st = true) : ∃ v, PBq w R a m c z (Q + K * n) F B T o N eB e v (k + 1) W := by
  obtain ⟨v, h1, h2⟩ := h.done hs
  exact ⟨v, h.ds.done, h.lB, h.typ, h.lT, h.typT, h.free, h1, h2⟩
theorem PBq.next {w : World} {R : Nat} {a : Option Addr} {m c : Nat} {z : Nat → Int} {Q : Nat} {F : List Sp} {B T o N : Nat} {eB e : TypeId} {cv : Value} {k : Nat} {Q' p : Nat} {W W' : World} (b : PBq w R a m c z Q F B T o N eB e cv k W) (hBR : B ≠ R) (hTR : T ≠ R) (hRN : R < N) (hr : Rd W' R a m c z p) (g : W.grownBy W' (some R)) (hp : p ≤ Q') : PBq w R a m c z Q' F B T o N eB e cv k W' := by
  have hb : W'.heap[B]? = W.heap[B]? := g.block B b.lB (fun e => hBR (by injection e))
  have ht : W'.heap[T]? = W.heap[T]? := g.block T b.lT (fun e => hTR (by injection e))
  exact ⟨b.d.next hr g hp, Nat.lt_of_lt_of_le b.lB g.size, b.tB.keep hb, Nat.lt_of_lt_of_le b.lT g.size, b.tT.keep ht, (World.frozen?_of_block (a := ⟨B, o, none⟩) hb).trans b.f, (World.cell?_of_block (a := ⟨B, o, none⟩) hb).trans b.cl, b.ow.grown hRN g⟩
theorem PBq.more {w : World} {R : Nat} {a : Option Addr} {m c : Nat} {z : Nat → Int} {Q : Nat} {F : List Sp} {B T o N : Nat} {eB e : TypeId} {cv : Value} {k : Nat} {Q' : Nat} {W : World} (b : PBq w R a m c z Q F B T o N eB e cv k W) (hp : Q ≤ Q') : PBq w R a m c z Q' F B T o N eB e cv k W :=
  ⟨b.d.more hp, b.lB, b.tB, b.lT, b.tT, b.f, b.cl, b.ow⟩
theorem PBq.alloc {w : World} {R : Nat} {a : Option Addr} {m c : Nat} {z : Nat → Int} {Q : Nat} {F : List Sp} {B T o N : Nat} {eB e : TypeId} {cv : Value} {k : Nat} {W : World} (b : PBq w R a m c z Q F B T o N eB e cv k W) (hBR : B ≠ R) (hTR : T ≠ R) (hRN : R < N) (x : Obj) : PBq w R a m c z Q F B T o N eB e cv k (W.alloc x) := by
  obtain ⟨p, hp, hr⟩ := b.d.rd
  exact b.next hBR hTR hRN (hr.kept (World.grownBy_alloc _ _ none) (by simp)) (World.grownBy_alloc _ _ _) hp
/-- A value of which nothing is said. -/
def AnyQ (_ : Value) : Prop := True
theorem PBq.kept {w : World} {R : Nat} {a : Option Addr} {m c : Nat} {z : Nat → Int} {Q : Nat} {F : List Sp} {B T o N : Nat} {eB e : TypeId} {cv : Value} {k : Nat} {W W' : World} (b : PBq w R a m c z Q F B T o N eB e cv k W) (he : eB ≠ e) (g : W.grownBy W' cv.ownBlock) : W'.frozen? ⟨B, o, none⟩ = false ∧ W'.cell? ⟨B, o, none⟩ = some cv := by
  have hb : W'.heap[B]? = W.heap[B]? := g.block B b.lB (fun e => b.tB.neQ b.ow he e.symm)
  exact ⟨(World.frozen?_of_block (a := ⟨B, o, none⟩) hb).trans b.f, (World.cell?_of_block (a := ⟨B, o, none⟩) hb).trans b.cl⟩
theorem own_formQ {N : Nat} {e : TypeId} {v : Value} {k : Nat} {W : World} (h : OwnQ N e v (k + 1) W) : ∃ g cap, v = .slice (some ⟨g, 0, none⟩) (k + 1) cap := by
  obtain ⟨xs, ow, _⟩ := h
  rcases ow.2 with ⟨_, h⟩ | ⟨g, cap, _, h, _⟩
  · omega
  · exact ⟨g, cap, h⟩
theorem OwnQ.cells {N : Nat} {e : TypeId} {v : Value} {k : Nat} {W : World} (h : OwnQ N e v (k + 1) W) : ∃ g cap, v = .slice (some ⟨g, 0, none⟩) (k + 1) cap ∧ k + 1 ≤ cap ∧ cap ≤ maxLen ∧ N ≤ g ∧ g < W.heap.size ∧ (∀ i, W.frozen? ⟨g, i, none⟩ = false) ∧ ∀ j, j < 2 * (k + 1) → ∃ x, W.cell? ⟨g, j, none⟩ = some x ∧ IsI x := by
  obtain ⟨xs, h0, hx⟩ := h
  rcases h0.2 with ⟨_, h1⟩ | ⟨g, cap, cur, rfl, hb, hg, h2, h3, _⟩
  · omega
  · refine ⟨g, cap, rfl, h2, h3, hb, (World.ownsRow.lt h0 g rfl).2, fun i => ?_, fun j hj => ?_⟩
    · unfold World.frozen?
      rw [hg]
      rfl
    · have hl : xs.length = (k + 1) * 2 := h0.1
      have hj' : j < xs.length := by omega
      refine ⟨xs[j], ?_, hx _ (List.getElem_mem hj')⟩
      rw [World.ownsRow.cellAt h0 j (by omega)]
      simp [hj']
/-- Some bool; some pair; the list of a drawn state, or less of it. -/
def IsB (v : Value) : Prop := ∃ b, v = .bool b
def IsQ (v : Value) : Prop := ∃ x y : Int, v = .agg #[.int .i64 x, .int .i64 y] ∧ I64 x ∧ I64 y
def IsSl (g cap : Nat) (v : Value) : Prop := ∃ n, n ≤ 4 ∧ v = .slice (some ⟨g, 0, none⟩) n cap
/-- All cells of a drawn state, its list in block g. -/
def stA (B T g cap : Nat) : List Sp := [⟨B, 0, IsB⟩, ⟨B, 1, IsSl g cap⟩, ⟨B, 2, IsI⟩, ⟨B, 3, IsI⟩, ⟨T, 0, AnyQ⟩, ⟨T, 1, AnyQ⟩, ⟨T, 2, AnyQ⟩, ⟨T, 3, AnyQ⟩, ⟨g, 0, IsI⟩, ⟨g, 1, IsI⟩, ⟨g, 2, IsI⟩, ⟨g, 3, IsI⟩, ⟨g, 4, IsI⟩, ⟨g, 5, IsI⟩, ⟨g, 6, IsI⟩, ⟨g, 7, IsI⟩]
/-- The cells of a drawn state's box and of its result, but for the list of bounds. -/
def stF (B T : Nat) : List Sp := [⟨B, 0, Is (.bool true)⟩, ⟨B, 2, IsI⟩, ⟨B, 3, IsI⟩, ⟨T, 0, AnyQ⟩, ⟨T, 1, AnyQ⟩, ⟨T, 2, AnyQ⟩, ⟨T, 3, AnyQ⟩]
theorem stF_in {B T : Nat} : ∀ f ∈ stF B T, f.b = B ∨ f.b = T := by
  intro f hf
  simp only [stF, List.mem_cons, List.not_mem_nil, or_false] at hf
  rcases hf with rfl | rfl | rfl | rfl | rfl | rfl | rfl <;> simp
theorem stF_no {B T : Nat} (h : B ≠ T) : ∀ f ∈ stF B T, f.b = B → f.o ≠ 1 := by
  intro f hf hb
  simp only [stF, List.mem_cons, List.not_mem_nil, or_false] at hf
  rcases hf with rfl | rfl | rfl | rfl | rfl | rfl | rfl <;> first | (simp; done) | exact absurd hb (Ne.symm h)
theorem PBq.made {w w1 : World} {R : Nat} {a : Option Addr} {m c : Nat} {z : Nat → Int} {p Q : Nat} {eB : TypeId} (e : TypeId) {x0 x1 x2 x3 : Value} {lo hi : Int} (hlo : I64 lo) (hhi : I64 hi) (hRs : R < w.heap.size) (h1 : Rd w1 R a m c z p) (g1 : (w.alloc (.cells #[x0, x1, x2, x3] eB)).grownBy w1 (some R)) (hp : p ≤ Q) : PBq w R a m c z Q (stF w1.heap.size w.heap.size) w1.heap.size w.heap.size 1 w.heap.size eB e (.slice none 0 0) 0 (w1.alloc (.cells #[.bool true, .slice none 0 0, .int .i64 lo, .int .i64 hi] eB)) := by
  have hs : w.heap.size + 1 ≤ w1.heap.size := by have := g1.size; simpa using this
  have hT : w1.heap[w.heap.size]? = some (.cells #[x0, x1, x2, x3] eB (0, 0)) := (g1.block _ (by simp) (by simp; omega)).trans (heap_alloc_new _ _)
  have hT2 : (w1.alloc (.cells #[.bool true, .slice none 0 0, .int .i64 lo, .int .i64 hi] eB)).heap[w.heap.size]? = some (.cells #[x0, x1, x2, x3] eB (0, 0)) := (Below.heap_alloc _ _ _ (by omega)).trans hT
  have hB : (w1.alloc (.cells #[.bool true, .slice none 0 0, .int .i64 lo, .int .i64 hi] eB)).heap[w1.heap.size]? = some (.cells #[.bool true, .slice none 0 0, .int .i64 lo, .int .i64 hi] eB (0, 0)) := heap_alloc_new _ _
  have cT : ∀ j x, #[x0, x1, x2, x3][j]? = some x → (w1.alloc (.cells #[.bool true, .slice none 0 0, .int .i64 lo, .int .i64 hi] eB)).cell? ⟨w.heap.size, j, none⟩ = some x := fun j x hj => by
    unfold World.cell?
    rw [hT2]
    simpa using hj
  have fT : ∀ j, (w1.alloc (.cells #[.bool true, .slice none 0 0, .int .i64 lo, .int .i64 hi] eB)).frozen? ⟨w.heap.size, j, none⟩ = false := fun j => by
    unfold World.frozen?
    rw [hT2]
    rfl
  refine ⟨⟨⟨p, hp, h1.kept (World.grownBy_alloc _ _ none) (by simp)⟩, grown_trans (grown_trans (World.grownBy_alloc _ _ _) g1) (World.grownBy_alloc _ _ _), ?_⟩, by simp, ⟨_, _, hB⟩, by simp; omega, ⟨_, _, hT2⟩, by simp [go_sem], by simp [go_sem], OwnQ.nil _ _ _⟩
  refine Fs.cons (by show w1.heap.size ≠ R; omega) (by show w.heap.size ≤ w1.heap.size; omega) (by show w1.heap.size < _; simp) (by simp [go_sem]) (v := .bool true) (by simp [go_sem]) rfl ?_
  refine Fs.cons (by show w1.heap.size ≠ R; omega) (by show w.heap.size ≤ w1.heap.size; omega) (by show w1.heap.size < _; simp) (by simp [go_sem]) (v := .int .i64 lo) (by simp [go_sem]) ⟨_, rfl, hlo⟩ ?_
  refine Fs.cons (by show w1.heap.size ≠ R; omega) (by show w.heap.size ≤ w1.heap.size; omega) (by show w1.heap.size < _; simp) (by simp [go_sem]) (v := .int .i64 hi) (by simp [go_sem]) ⟨_, rfl, hhi⟩ ?_
  refine Fs.cons (by show w.heap.size ≠ R; omega) (Nat.le_refl _) (by show w.heap.size < _; simp; omega) (fT 0) (cT 0 x0 rfl) trivial ?_
  refine Fs.cons (by show w.heap.size ≠ R; omega) (Nat.le_refl _) (by show w.heap.size < _; simp; omega) (fT 1) (cT 1 x1 rfl) trivial ?_
  refine Fs.cons (by show w.heap.size ≠ R; omega) (Nat.le_refl _) (by show w.heap.size < _; simp; omega) (fT 2) (cT 2 x2 rfl) trivial ?_
  exact Fs.cons (by show w.heap.size ≠ R; omega) (Nat.le_refl _) (by show w.heap.size < _; simp; omega) (fT 3) (cT 3 x3 rfl) trivial (Fs.nil _ _ _)
theorem own4q {W : World} {B : Nat} {u0 u1 u2 u3 : Value} (k0 : W.cell? ⟨B, 0, none⟩ = some u0) (k1 : W.cell? ⟨B, 1, none⟩ = some u1) (k2 : W.cell? ⟨B, 2, none⟩ = some u2) (k3 : W.cell? ⟨B, 3, none⟩ = some u3) :
    (∀ x0, (W.setCell ⟨B, 0, none⟩ x0).cell? ⟨B, 0, none⟩ = some x0) ∧ (∀ x0 x1, ((W.setCell ⟨B, 0, none⟩ x0).setCell ⟨B, 1, none⟩ x1).cell? ⟨B, 1, none⟩ = some x1) ∧ (∀ x0 x1 x2, (((W.setCell ⟨B, 0, none⟩ x0).setCell ⟨B, 1, none⟩ x1).setCell ⟨B, 2, none⟩ x2).cell? ⟨B, 2, none⟩ = some x2) ∧ (∀ x0 x1 x2 x3, ((((W.setCell ⟨B, 0, none⟩ x0).setCell ⟨B, 1, none⟩ x1).setCell ⟨B, 2, none⟩ x2).setCell ⟨B, 3, none⟩ x3).cell? ⟨B, 3, none⟩ = some x3) :=
  ⟨fun _ => World.cell?_setCell_same _ _ _ k0, fun _ _ => World.cell?_setCell_same _ _ _ (u := u1) (by rw [World.cell?_setCell_other _ _ _ _ (by simp)]; exact k1), fun _ _ _ => World.cell?_setCell_same _ _ _ (u := u2) (by rw [World.cell?_setCell_other _ _ _ _ (by simp), World.cell?_setCell_other _ _ _ _ (by simp)]; exact k2), fun _ _ _ _ => World.cell?_setCell_same _ _ _ (u := u3) (by rw [World.cell?_setCell_other _ _ _ _ (by simp), World.cell?_setCell_other _ _ _ _ (by simp), World.cell?_setCell_other _ _ _ _ (by simp)]; exact k3)⟩
theorem stA_B {B T g cap : Nat} (hT : T ≠ B) (hg : g ≠ B) (i : Nat) (v : Value) (hv : (i = 0 → IsB v) ∧ (i = 1 → IsSl g cap v) ∧ (i = 2 → IsI v) ∧ (i = 3 → IsI v)) : ∀ f ∈ stA B T g cap, f.b = B → f.o = i → f.P v := by
  intro f hf h1 h2
  simp only [stA, List.mem_cons, List.not_mem_nil, or_false] at hf
  rcases hf with rfl | rfl | rfl | rfl | rfl | rfl | rfl | rfl | rfl | rfl | rfl | rfl | rfl | rfl | rfl | rfl
  · exact hv.1 h2.symm
  · exact hv.2.1 h2.symm
  · exact hv.2.2.1 h2.symm
  · exact hv.2.2.2 h2.symm
  all_goals first | exact absurd h1 hT | exact absurd h1 hg
theorem stA_T {B T g cap : Nat} (hT : T ≠ B) (hg : g ≠ T) (i : Nat) (v : Value) : ∀ f ∈ stA B T g cap, f.b = T → f.o = i → f.P v := by
  intro f hf h1 h2
  simp only [stA, List.mem_cons, List.not_mem_nil, or_false] at hf
  rcases hf with rfl | rfl | rfl | rfl | rfl | rfl | rfl | rfl | rfl | rfl | rfl | rfl | rfl | rfl | rfl | rfl
  all_goals first | exact absurd h1 (Ne.symm hT) | exact absurd h1 hg | exact trivial
theorem stA_g {B T g cap : Nat} (hB : g ≠ B) (hT : g ≠ T) (v : Value) (hv : IsI v) (i : Nat) : ∀ f ∈ stA B T g cap, f.b = g → f.o = i → f.P v := by
  intro f hf h1 h2
  simp only [stA, List.mem_cons, List.not_mem_nil, or_false] at hf
  rcases hf with rfl | rfl | rfl | rfl | rfl | rfl | rfl | rfl | rfl | rfl | rfl | rfl | rfl | rfl | rfl | rfl
  all_goals first | exact absurd h1.symm hB | exact absurd h1.symm hT | exact hv
/-- The numbers in a drawn state's list. -/
theorem stA_zs {w : World} {R : Nat} {a : Option Addr} {m c : Nat} {z : Nat → Int} {Q B T g cap : Nat} {W : World} (h : Dr w R a m c z Q (stA B T g cap) W) : g < W.heap.size ∧ ∀ j, j < 8 → W.cell? ⟨g, j, none⟩ = some (.int .i64 (intOf ((W.cell? ⟨g, j, none⟩).getD (.int .i64 0)))) ∧ I64 (intOf ((W.cell? ⟨g, j, none⟩).getD (.int .i64 0))) := by
  have hh : ∀ j, j < 8 → (⟨g, j, IsI⟩ : Sp) ∈ stA B T g cap := fun j hj => by
    rcases (show j = 0 ∨ j = 1 ∨ j = 2 ∨ j = 3 ∨ j = 4 ∨ j = 5 ∨ j = 6 ∨ j = 7 by omega) with rfl | rfl | rfl | rfl | rfl | rfl | rfl | rfl <;> simp [stA]
  refine ⟨(h.fs _ (hh 0 (by omega))).2.2.1, fun j hj => ?_⟩
  obtain ⟨v, k, x, rfl, hx⟩ := Dr.has h (hh j hj)
  have k' : W.cell? ⟨g, j, none⟩ = some (.int .i64 x) := k
  rw [k']
  exact ⟨rfl, hx⟩
/-- The list grown, its cells are told one by one. -/
theorem PBq.all {w : World} {R : Nat} {a : Option Addr} {m c : Nat} {z : Nat → Int} {Q : Nat} {B T : Nat} {eB e : TypeId} {cv : Value} {W : World} (b : PBq w R a m c z Q (stF B T) B T 1 w.heap.size eB e cv 4 W) (hw : w.heap.size ≤ B) (hBR : B ≠ R) (hRs : R < w.heap.size) : ∃ g cap, cv = .slice (some ⟨g, 0, none⟩) 4 cap ∧ 4 ≤ cap ∧ cap ≤ maxLen ∧ w.heap.size ≤ g ∧ Dr w R a m c z Q (stA B T g cap) W := by
  obtain ⟨g, cap, rfl, h1, h2, h3, h4, h5, h6⟩ := OwnQ.cells b.ow
  obtain ⟨d1, d2, d3⟩ := b.d
  refine ⟨g, cap, rfl, h1, h2, h3, d1, d2, ?_⟩
  have hg : ∀ j, j < 8 → (⟨g, j, IsI⟩ : Sp).b ≠ R ∧ w.heap.size ≤ (⟨g, j, IsI⟩ : Sp).b ∧ (⟨g, j, IsI⟩ : Sp).b < W.heap.size ∧ W.frozen? ⟨g, j, none⟩ = false ∧ ∃ v, W.cell? ⟨g, j, none⟩ = some v ∧ IsI v := fun j hj => ⟨by show g ≠ R; omega, h3, h4, h5 j, h6 j (by omega)⟩
  intro f hf
  simp only [stA, List.mem_cons, List.not_mem_nil, or_false] at hf
  rcases hf with rfl | rfl | rfl | rfl | rfl | rfl | rfl | rfl | rfl | rfl | rfl | rfl | rfl | rfl | rfl | rfl
  · obtain ⟨k1, k2, k3, k4, v, k5, k6⟩ := d3 ⟨B, 0, Is (.bool true)⟩ (by simp [stF])
    exact ⟨k1, k2, k3, k4, v, k5, true, k6⟩
  · exact ⟨hBR, hw, b.lB, b.f, _, b.cl, 4, Nat.le_refl _, rfl⟩
  · exact d3 _ (by simp [stF])
  · exact d3 _ (by simp [stF])
  · exact d3 _ (by simp [stF])
  · exact d3 _ (by simp [stF])
  · exact d3 _ (by simp [stF])
  · exact d3 _ (by simp [stF])
  all_goals exact hg _ (by omega)
end Go.Proofs.Ytiehokibfdaleaa
