/- The model's AbsJoin. -/
import Derived.Test.YtiehokibfdaleaaCopy7
import Derived.Test.YtiehokibfdaleaaOwn
import Derived.Test.YtiehokibfdaleaaItvTwo
namespace Go.Proofs.Ytiehokibfdaleaa
open Go.ChangeShapes Go.WideShapes Go.ChangeAt Go.RowKit
set_option linter.unusedVariables false

theorem infoB : (Try.prog.info? 25).map (fun i => (i.zero, i.size, i.bytes)) = some (some (.agg #[.int .i64 0, .int .i64 0]), 2, 16) := by kernel_rfl
theorem wpAt_own_append2 {P : Program} {ops : Array Oper} {o : Oper} {a : Act} {w : World} {Q : Exit → Act → World → Prop} {ix d : Nat} {R : Value → World → Prop}
    (hi : ops[ix]? = some o) (hd : o.dst = some d) (hg : o.guard = none) (hlt : d < a.tmps.size) (s x : Operand) (t : TypeId) (hop : o.op = Op.call { callee := Callee.builtin Builtin.append, args := #[s, x], argTypes := #[t, t] })
    (base : Nat) (e : TypeId) (i : TypeInfo) (z : Value) (size bytes : Nat) (h1 : P.underlying t = some (.slice e)) (h2 : P.info? e = some i) (h3 : i.zero = some z) (h4 : i.size = size) (h5 : i.bytes = bytes) (h6 : z.cells.size = size) (h7 : 0 < size)
    (v : Value) (n : Nat) (xs : List Value) (hs : a.eval s = v) (hown : w.ownsRow base e size v n xs)
    (ad : Addr) (m c : Nat) (news : List Value) (hx : a.eval x = .slice (some ad) m c) (hn : news.length = m * size) (hc : ∀ j u, news[j]? = some u → w.cell? (ad.add j) = some u) (h1c : ∀ u ∈ news, u.oneCell' = true)
    (b1 : n + m ≤ maxLen) (b2 : (n + m) * bytes ≤ 140737488355328) (hbase : base ≤ w.heap.size)
    (hK : ∀ v' w', w'.ownsRow base e size v' (n + m) (xs ++ news) → w.grownBy w' v.ownBlock → R v' w') :
    wpAt P ops Q ix R a w := by
  refine wpAt_of hi hd ?_
  refine wpList_append_own w hg s x t hop base e i z size bytes h1 h2 h3 h4 h5 h6 h7 v n xs hs hown ad m c news hx hn hc h1c b1 b2 hbase (fun v' w' r1 r2 _ => ?_)
  have h := hK v' w' r1 r2
  rw [hd]
  simp [wpList, Exit.then, Act.put, hlt]
  exact h
theorem own_next {N : Nat} {e : TypeId} {s : Nat} {v : Value} {n : Nat} {xs : List Value} {W W' : World} (h : W.ownsRow N e s v n xs) (hb : ∀ g, N ≤ g → g < W.heap.size → W'.heap[g]? = W.heap[g]?) : W'.ownsRow N e s v n xs := by
  refine ⟨h.1, ?_⟩
  rcases h.2 with h2 | ⟨g, cap, cur, h1, h2, h3, h4⟩
  · exact .inl h2
  · exact .inr ⟨g, cap, cur, h1, h2, (hb g h2 (Array.getElem?_eq_some_iff.1 h3).1).trans h3, h4⟩
theorem own_below {N : Nat} {e : TypeId} {s : Nat} {v : Value} {n : Nat} {xs : List Value} {W W' : World} (h : W.ownsRow N e s v n xs) (hN : N ≤ W.heap.size) (g : W.grownBy W' v.ownBlock) : Below N W W' :=
  ⟨g.os, g.tape, g.output, g.size, fun k hk => g.block k (by omega) (fun e => by have := (h.lt k e.symm).1; omega)⟩
def rowL (F G : Nat → Int) : Nat → List Value
  | 0 => []
  | k + 1 => rowL F G k ++ [.int .i64 (F k), .int .i64 (G k)]
/-- A new list of one element. -/
def NewP (vs : List Value) (v : Value) (W : World) : Prop := ∃ g : Nat, v = .slice (some ⟨g, 0, none⟩) 1 1 ∧ g < W.heap.size ∧ ∀ j u, vs[j]? = some u → W.cell? ⟨g, j, none⟩ = some u
theorem NewP.next {vs : List Value} {v : Value} {W W' : World} (h : NewP vs v W) (hb : Below W.heap.size W W') : NewP vs v W' := by
  obtain ⟨g, e, h1, h2⟩ := h
  exact ⟨g, e, Nat.lt_of_lt_of_le h1 hb.size, fun j u hu => (hb.cell (p := ⟨g, j, none⟩) h1).trans (h2 j u hu)⟩
/-- What the loop's region holds: the state being made, its list, the new element. -/
structure JoS (w : World) (X : Nat) (Lr : List (Nat × List Value)) (cv : Value) (k : Nat) (F G : Nat → Int) (jc jd : Int) (L : Nat → Bool) (vals : Nat → Value) (W : World) : Prop where
  big : X + 1 ≤ W.heap.size
  lt : ∀ e ∈ Lr, e.1 < X
  before : L 16 = false → HeldL w ((X, [Value.bool true, cv, .int .i64 jc, .int .i64 jd]) :: Lr) W
  after : L 16 = true → HeldL w ((X, [Value.bool true, vals 14, .int .i64 jc, .int .i64 jd]) :: Lr) W
  own0 : L 14 = false → W.ownsRow (X + 1) 25 2 cv k (rowL F G k)
  own1 : L 14 = true → W.ownsRow (X + 1) 25 2 (vals 14) (k + 1) (rowL F G (k + 1))
  new : L 13 = true → L 14 = false → NewP [.int .i64 (F k), .int .i64 (G k)] (vals 13) W
  i1 : Imp 14 16 L
  i2 : Imp 1 14 L
section
variable {w : World} {X : Nat} {Lr : List (Nat × List Value)} {cv : Value} {k : Nat} {F G : Nat → Int} {jc jd : Int} {L : Nat → Bool} {vals : Nat → Value} {W W' : World}
theorem JoS.next (h : JoS w X Lr cv k F G jc jd L vals W) (hb : Below W.heap.size W W') : JoS w X Lr cv k F G jc jd L vals W' :=
  ⟨Nat.le_trans h.big hb.size, h.lt, fun e => (h.before e).next hb, fun e => (h.after e).next hb, fun e => own_next (h.own0 e) (fun g _ hg => hb.block g hg), fun e => own_next (h.own1 e) (fun g _ hg => hb.block g hg), fun e1 e2 => (h.new e1 e2).next hb, h.i1, h.i2⟩
theorem JoS.pure (h : JoS w X Lr cv k F G jc jd L vals W) {i : Nat} {v : Value} (h13 : 13 ≠ i) (h14 : 14 ≠ i) (h16 : 16 ≠ i) (_ : 0 = 0) : JoS w X Lr cv k F G jc jd (upd L i true) (upd vals i v) W :=
  ⟨h.big, h.lt, fun e => h.before (by rwa [upd_other _ _ h16] at e), fun e => by rw [upd_other _ _ h14]; exact h.after (by rwa [upd_other _ _ h16] at e), fun e => h.own0 (by rwa [upd_other _ _ h14] at e), fun e => by rw [upd_other _ _ h14]; exact h.own1 (by rwa [upd_other _ _ h14] at e), fun e1 e2 => by rw [upd_other _ _ h13]; exact h.new (by rwa [upd_other _ _ h13] at e1) (by rwa [upd_other _ _ h14] at e2), h.i1.go (fun e => absurd e.symm h16), h.i2.go (fun e => absurd e.symm h14)⟩
theorem JoS.no1 (h : JoS w X Lr cv k F G jc jd L vals W) (h1 : L 1 = false) : L 16 = false := h.i1.no (h.i2.no h1)
theorem JoS.sub (h : JoS w X Lr cv k F G jc jd L vals W) : HeldL w Lr W := by
  cases e : L 16
  · exact (h.before e).sub (fun x hx => List.mem_cons_of_mem _ hx)
  · exact (h.after e).sub (fun x hx => List.mem_cons_of_mem _ hx)
theorem JoS.below (h : JoS w X Lr cv k F G jc jd L vals W) : Below w.heap.size w W := h.sub.below
theorem JoS.cell (h : JoS w X Lr cv k F G jc jd L vals W) {e : Nat × List Value} (he : e ∈ Lr) {i : Nat} {v : Value} (hv : e.2[i]? = some v) : W.cell? ⟨e.1, i, none⟩ = some v := h.sub.cell he hv
theorem JoS.made (h : JoS w X Lr cv k F G jc jd L vals W) {v : Value} (hn : NewP [.int .i64 (F k), .int .i64 (G k)] v W) : JoS w X Lr cv k F G jc jd (upd L 13 true) (upd vals 13 v) W :=
  ⟨h.big, h.lt, fun e => h.before (by rwa [upd_other _ _ (by decide)] at e), fun e => by rw [upd_other _ _ (by decide)]; exact h.after (by rwa [upd_other _ _ (by decide)] at e), fun e => h.own0 (by rwa [upd_other _ _ (by decide)] at e), fun e => by rw [upd_other _ _ (by decide)]; exact h.own1 (by rwa [upd_other _ _ (by decide)] at e), fun _ _ => by rw [upd_same]; exact hn, h.i1.go (fun e => absurd e (by decide)), h.i2.go (fun e => absurd e (by decide))⟩
theorem HeldL.belowN {N : Nat} {L : List (Nat × List Value)} (h : HeldL w L W) (hb : Below N W W') (hN : w.heap.size ≤ N) (hL : ∀ e ∈ L, e.1 < N) : HeldL w L W' :=
  ⟨h.below.trans (hb.mono hN), fun e he => by
    obtain ⟨h1, h2, h3⟩ := h.cells e he
    exact ⟨h1, Nat.lt_of_lt_of_le h2 hb.size, fun i v hv => (hb.cell (p := ⟨e.1, i, none⟩) (hL e he)).trans (h3 i v hv)⟩,
    fun e he i => (hb.frozen (p := ⟨e.1, i, none⟩) (hL e he)).trans (h.free e he i)⟩
theorem JoS.app (h : JoS w X Lr cv k F G jc jd L vals W) (hX : w.heap.size ≤ X) (hL : L 14 = false) (h1 : L 1 = true) {v : Value} (r1 : W'.ownsRow (X + 1) 25 2 v (k + 1) (rowL F G k ++ [.int .i64 (F k), .int .i64 (G k)])) (r2 : W.grownBy W' cv.ownBlock) : JoS w X Lr cv k F G jc jd (upd L 14 true) (upd vals 14 v) W' := by
  have hb := own_below (h.own0 hL) h.big r2
  have h16 : L 16 = false := h.i1.no hL
  refine ⟨Nat.le_trans h.big r2.size, h.lt, fun _ => (h.before h16).belowN hb (by omega) (fun e he => ?_), fun e => ?_, fun e => ?_, fun _ => by rw [upd_same]; exact r1, fun _ e => ?_, h.i1.go (fun e => absurd e (by decide)), h.i2.go (fun _ => h1)⟩
  · rcases List.mem_cons.1 he with rfl | he
    · exact Nat.lt_succ_self X
    · have := h.lt e he; omega
  · rw [upd_other _ _ (by decide), h16] at e; cases e
  · rw [upd_same] at e; cases e
  · rw [upd_same] at e; cases e
theorem JoS.val (h : JoS w X Lr cv k F G jc jd L vals W) (hL : L 14 = true) : ∃ g c : Nat, vals 14 = .slice (some ⟨g, 0, none⟩) (k + 1) c := by
  rcases (h.own1 hL).2 with ⟨_, h0⟩ | ⟨g, cap, cur, h1, _⟩
  · omega
  · exact ⟨g, cap, h1⟩
theorem JoS.sto (h : JoS w X Lr cv k F G jc jd L vals W) (hL : L 14 = true) {u : Value} (hH : HeldL w ((X, [Value.bool true, vals 14, .int .i64 jc, .int .i64 jd]) :: Lr) (W.setCell ⟨X, 1, none⟩ (vals 14))) : JoS w X Lr cv k F G jc jd (upd L 16 true) (upd vals 16 u) (W.setCell ⟨X, 1, none⟩ (vals 14)) := by
  refine ⟨by simpa [World.setCell] using h.big, h.lt, fun e => ?_, fun _ => by rw [upd_other _ _ (by decide)]; exact hH, fun e => ?_, fun _ => by rw [upd_other _ _ (by decide)]; exact own_next (h.own1 hL) (fun g hg _ => Below.heap_setCell W _ _ g (by dsimp only; omega)), fun _ e => ?_, h.i1.go (fun _ => hL), h.i2.go (fun e => absurd e (by decide))⟩
  · rw [upd_same] at e; cases e
  · rw [upd_other _ _ (by decide), hL] at e; cases e
  · rw [upd_other _ _ (by decide), hL] at e; cases e
end
end Go.Proofs.Ytiehokibfdaleaa
