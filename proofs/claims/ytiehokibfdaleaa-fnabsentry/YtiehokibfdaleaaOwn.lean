/- Lists of ints that a call makes of its own: an append inside a region that draws its order; the least and the greatest of few. No program in it. -/
import Derived.WalkKit
import Derived.Below
import Derived.Lib.Slices
namespace Go.Proofs.Ytiehokibfdaleaa
open Go.RowKit

/-- append to a list of the call's own, with room or without, as one step of a region that draws. -/
theorem step_append_own {P : Program} {ops : Array Oper} {o : Oper} {a : Act} {w : World} {K : Act → World → Prop} {Q : Exit → Act → World → Prop} {E : Prop}
    (hg : o.guard = none) (s x : Operand) (t : TypeId) (hop : o.op = Op.call { callee := Callee.builtin Builtin.append, args := #[s, x], argTypes := #[t, t] })
    (base : Nat) (e : TypeId) (i : TypeInfo) (z : Value) (size bytes : Nat) (h1 : P.underlying t = some (.slice e)) (h2 : P.info? e = some i) (h3 : i.zero = some z) (h4 : i.size = size) (h5 : i.bytes = bytes) (h6 : z.cells.size = size) (h7 : 0 < size)
    (v : Value) (n : Nat) (xs : List Value) (hs : a.eval s = v) (hown : w.ownsRow base e size v n xs)
    (ad : Addr) (m c : Nat) (news : List Value) (hx : a.eval x = .slice (some ad) m c) (hn : news.length = m * size) (hc : ∀ j u, news[j]? = some u → w.cell? (ad.add j) = some u) (h1c : ∀ u ∈ news, u.oneCell' = true)
    (b1 : n + m ≤ maxLen) (b2 : (n + m) * bytes ≤ 140737488355328) (hbase : base ≤ w.heap.size)
    (hK : ∀ v' w', w'.ownsRow base e size v' (n + m) (xs ++ news) → w.grownBy w' v.ownBlock → K (a.put o.dst v') w') :
    if Region.wanted o (yielded ops a.tmps) = true then Oper.wp P o a w K Q else E := by
  have hw : Region.wanted o (yielded ops a.tmps) = true := by simp [Region.wanted, hg]
  rw [if_pos hw]
  obtain ⟨v', w', hrun, r1, r2, _⟩ := run_append_own (P := P) w base t o.type e i z size bytes h1 h2 h3 h4 h5 h6 h7 v n xs hown ad m c news hn hc h1c b1 b2 hbase
  unfold Oper.wp
  simp [execOp, hop, resolve, invoke, builtin, hs, hx, hrun, Result.andThen]
  exact hK v' w' r1 r2

/-- v is a list of ints of the call's own, made behind block B. -/
def Owns (B : Nat) (e : TypeId) (v : Value) (zs : List Int) (W : World) : Prop := W.ownsRow B e 1 v zs.length (zs.map (Value.int .i64))
theorem Owns.nil (B : Nat) (e : TypeId) (W : World) : Owns B e (.slice none 0 0) [] W := World.ownsRow_nil _ _ _ _
theorem Owns.alloc {B : Nat} {e : TypeId} {v : Value} {zs : List Int} {W : World} (h : Owns B e v zs W) (o : Obj) : Owns B e v zs (W.alloc o) := World.ownsRow.alloc h o
theorem Owns.weaken {B C : Nat} {e : TypeId} {v : Value} {zs : List Int} {W : World} (h : Owns B e v zs W) (hc : C ≤ B) : Owns C e v zs W := by
  refine ⟨h.1, ?_⟩
  rcases h.2 with h2 | ⟨g, cap, cur, h1, h2, h3⟩
  · exact .inl h2
  · exact .inr ⟨g, cap, cur, h1, Nat.le_trans hc h2, h3⟩
theorem Owns.drew {B : Nat} {e : TypeId} {v : Value} {zs : List Int} {W : World} (h : Owns B e v zs W) : Owns B e v zs W.drew := h
theorem Owns.form {B : Nat} {e : TypeId} {v : Value} {zs : List Int} {W : World} (h : Owns B e v zs W) (hz : zs ≠ []) : ∃ g cap, v = .slice (some ⟨g, 0, none⟩) zs.length cap ∧ B ≤ g ∧ g < W.heap.size ∧ (∀ j, j < zs.length → W.cell? ⟨g, j, none⟩ = some (.int .i64 (zs.getD j 0))) ∧ zs.length ≤ cap ∧ cap ≤ maxLen := by
  have h0 := h
  rcases h.2 with ⟨_, h1⟩ | ⟨g, cap, cur, rfl, hb, hg, h2, h3, _⟩
  · exact absurd (List.eq_nil_of_length_eq_zero h1) hz
  · refine ⟨g, cap, rfl, hb, (World.ownsRow.lt h0 g rfl).2, fun j hj => ?_, h2, h3⟩
    rw [World.ownsRow.cellAt h0 j (by omega)]
    simp [hj]
theorem Owns.grown {B C : Nat} {e : TypeId} {v : Value} {zs : List Int} {W0 W W' : World} (hC : C ≤ B) (h : Owns B e v zs W) (hb : Below C W0 W) (hB : C ≤ W.heap.size) (hg : W.grownBy W' v.ownBlock) : Below C W0 W' :=
  hb.grown hg hB fun k hk => Nat.le_trans hC (World.ownsRow.lt h k hk).1
theorem Owns.two {B : Nat} {e : TypeId} {v' : Value} {zs : List Int} {W' : World} {x y : Int} (h : W'.ownsRow B e 1 v' (zs.length + 2) (zs.map (Value.int .i64) ++ [.int .i64 x, .int .i64 y])) : Owns B e v' (zs ++ [x, y]) W' := by
  unfold Owns
  simpa using h
theorem min2 (a b : Int) : Lib.minOf [a, b] = min a b := by simp [Lib.minOf]
theorem max2 (a b : Int) : Lib.maxOf [a, b] = max a b := by simp [Lib.maxOf]
theorem min4 (a b c d : Int) : Lib.minOf [a, b, c, d] = min (min a b) (min c d) := by simp [Lib.minOf]
theorem max4 (a b c d : Int) : Lib.maxOf [a, b, c, d] = max (max a b) (max c d) := by simp [Lib.maxOf]
theorem min8 (a b c d p q r s : Int) : Lib.minOf [a, b, c, d, p, q, r, s] = min (min (min a b) (min c d)) (min (min p q) (min r s)) := by simp [Lib.minOf]
theorem max8 (a b c d p q r s : Int) : Lib.maxOf [a, b, c, d, p, q, r, s] = max (max (max a b) (max c d)) (max (max p q) (max r s)) := by simp [Lib.maxOf]
end Go.Proofs.Ytiehokibfdaleaa
