/- Lists of ints that a call makes of its own: an append inside a region that draws its order; the least and the greatest of few. No program in it. · What the drawing of a list of numbers answers over a reader; what the drawing of inputs answers. · What the drawing of a number of bounds, and of bounds and a number, answers over a reader. · Blocks of eight ints beside a reader: stored into, read; tables that a region makes. No program in it. -/
import Derived.WalkKit
import Derived.Below
import Derived.Lib.Slices
import Derived.Test.YtiehokibfdaleaaG4
import Derived.Test.YtiehokibfdaleaaG3
namespace Go.Proofs.Ytiehokibfdaleaa
open Go.RowKit

/-- append to a list of the call's own, with room or without, as one step of a region that draws. -/
theorem step_append_own {P : Program} {ops : Array Oper} {o : Oper} {a : Act} {w : World} {K : Act → World → Prop} {Q : Exit → Act → World → Prop} {E : Prop}
    (hg : o.guard = none) (s x : Operand) (t : TypeId) (hop : o.op = Op.call { callee := Callee.builtin Builtin.append, args := #[s, x], argTypes := #[t, t] })
    (base : Nat) (e : TypeId) (i : TypeInfo) (z : Value) (size bytes : Nat) (h1 : P.underlying t = some (.slice e)) (h2 : P.info? e = some i) (h3 : i.zero = some z) (h4 : i.size = size) (h5 : i.bytes = bytes) (h6 : z.cells.size = size) (h7 : 0 < size)
    (v : Value) (n : Nat) (xs : List Value) (hs : a.eval s = v) (hown : w.ownsRow base e size v n xs)
    (ad : Addr) (m c : Nat) (news : List Value) (hx : a.eval x = .slice (some ad) m c) (hn : news.length = m * size) (hc : ∀ j u, news[j]? = some u → w.cell? (ad.add j) = some u) (h1c : ∀ u ∈ news, u.oneCell' = true)
    (b1 : n + m ≤ maxLen) (b2 : (n + m) * bytes ≤ 140737488355328) (hbase : base ≤ w.heap.size)
    (hK : ∀ v' w', w'.ownsRow base e size v' (n + m) (xs ++ news) → w.grownBy w' v.ownBlock → K (a.put o.dst v') w') :
    if Region.wanted o (yielded ops a.tmps) = true then Oper.wp P o a w K Q else E := by
  have hw : Region.wanted o (yielded ops a.tmps) = true := by simp [Region.wanted, hg]
  rw [if_pos hw]
  obtain ⟨v', w', hrun, r1, r2, _⟩ := run_append_own (P := P) w base t o.type e i z size bytes h1 h2 h3 h4 h5 h6 h7 v n xs hown ad m c news hn hc h1c b1 b2 hbase
  unfold Oper.wp
  simp [execOp, hop, resolve, invoke, builtin, hs, hx, hrun, Result.andThen]
  exact hK v' w' r1 r2

/-- v is a list of ints of the call's own, made behind block B. -/
def Owns (B : Nat) (e : TypeId) (v : Value) (zs : List Int) (W : World) : Prop := W.ownsRow B e 1 v zs.length (zs.map (Value.int .i64))
theorem Owns.nil (B : Nat) (e : TypeId) (W : World) : Owns B e (.slice none 0 0) [] W := World.ownsRow_nil _ _ _ _
theorem Owns.alloc {B : Nat} {e : TypeId} {v : Value} {zs : List Int} {W : World} (h : Owns B e v zs W) (o : Obj) : Owns B e v zs (W.alloc o) := World.ownsRow.alloc h o
theorem Owns.weaken {B C : Nat} {e : TypeId} {v : Value} {zs : List Int} {W : World} (h : Owns B e v zs W) (hc : C ≤ B) : Owns C e v zs W := by
  refine ⟨h.1, ?_⟩
  rcases h.2 with h2 | ⟨g, cap, cur, h1, h2, h3⟩
  · exact .inl h2
  · exact .inr ⟨g, cap, cur, h1, Nat.le_trans hc h2, h3⟩
theorem Owns.drew {B : Nat} {e : TypeId} {v : Value} {zs : List Int} {W : World} (h : Owns B e v zs W) : Owns B e v zs W.drew := h
theorem Owns.form {B : Nat} {e : TypeId} {v : Value} {zs : List Int} {W : World} (h : Owns B e v zs W) (hz : zs ≠ []) : ∃ g cap, v = .slice (some ⟨g, 0, none⟩) zs.length cap ∧ B ≤ g ∧ g < W.heap.size ∧ (∀ j, j < zs.length → W.cell? ⟨g, j, none⟩ = some (.int .i64 (zs.getD j 0))) ∧ zs.length ≤ cap ∧ cap ≤ maxLen := by
  have h0 := h
  rcases h.2 with ⟨_, h1⟩ | ⟨g, cap, cur, rfl, hb, hg, h2, h3, _⟩
  · exact absurd (List.eq_nil_of_length_eq_zero h1) hz
  · refine ⟨g, cap, rfl, hb, (World.ownsRow.lt h0 g rfl).2, fun j hj => ?_, h2, h3⟩
    rw [World.ownsRow.cellAt h0 j (by omega)]
    simp [hj]
theorem Owns.grown {B C : Nat} {e : TypeId} {v : Value} {zs : List Int} {W0 W W' : World} (hC : C ≤ B) (h : Owns B e v zs W) (hb : Below C W0 W) (hB : C ≤ W.heap.size) (hg : W.grownBy W' v.ownBlock) : Below C W0 W' :=
  hb.grown hg hB fun k hk => Nat.le_trans hC (World.ownsRow.lt h k hk).1
theorem Owns.two {B : Nat} {e : TypeId} {v' : Value} {zs : List Int} {W' : World} {x y : Int} (h : W'.ownsRow B e 1 v' (zs.length + 2) (zs.map (Value.int .i64) ++ [.int .i64 x, .int .i64 y])) : Owns B e v' (zs ++ [x, y]) W' := by
  unfold Owns
  simpa using h
theorem min2 (a b : Int) : Lib.minOf [a, b] = min a b := by simp [Lib.minOf]
theorem max2 (a b : Int) : Lib.maxOf [a, b] = max a b := by simp [Lib.maxOf]
theorem min4 (a b c d : Int) : Lib.minOf [a, b, c, d] = min (min a b) (min c d) := by simp [Lib.minOf]
theorem max4 (a b c d : Int) : Lib.maxOf [a, b, c, d] = max (max a b) (max c d) := by simp [Lib.maxOf]
theorem min8 (a b c d p q r s : Int) : Lib.minOf [a, b, c, d, p, q, r, s] = min (min (min a b) (min c d)) (min (min p q) (min r s)) := by simp [Lib.minOf]
theorem max8 (a b c d p q r s : Int) : Lib.maxOf [a, b, c, d, p, q, r, s] = max (max (max a b) (max c d)) (max (max p q) (max r s)) := by simp [Lib.maxOf]
end Go.Proofs.Ytiehokibfdaleaa
namespace Go.Proofs.Ytiehokibfdaleaa
open Go.ChangeShapes Go.WideShapes Go.ChangeAt Go.RowKit

def Inp (zs : List Int) : Prop := ∀ x ∈ zs, -32768 ≤ x ∧ x ≤ 32767
/-- A list of so many numbers lies somewhere of its own, at or behind B. -/
def ListAt (B n : Nat) (v : Value) (W : World) : Prop := ∃ g cap zs, v = .slice (some ⟨g, 0, none⟩) n cap ∧ n ≤ cap ∧ B ≤ g ∧ g < W.heap.size ∧ zs.length = n ∧ Inp zs ∧ ∀ j, j < n → W.cell? ⟨g, j, none⟩ = some (.int .i64 (zs.getD j 0))

theorem infoIntL : (Try.prog.info? 3).map (fun i => (i.zero, i.size, i.bytes)) = some (some (.int .i64 0), 1, 8) := by kernel_rfl
theorem one_cells {W : World} {g : Nat} {x : Value} (h : W.cell? ⟨g, 0, none⟩ = some x) : ∀ j u, ([x] : List Value)[j]? = some u → W.cell? ((⟨g, 0, none⟩ : Addr).add j) = some u := by
  intro j u hj
  cases j with
  | zero =>
    simp at hj
    subst hj
    simpa [Addr.add] using h
  | succ j => simp at hj

theorem Owns.reader {B R : Nat} {e : TypeId} {v : Value} {zs : List Int} {W W' : World} (h : Owns B e v zs W) (hR : R < B) (g : W.grownBy W' (some R)) : Owns B e v zs W' := by
  refine ⟨h.1, ?_⟩
  rcases h.2 with h2 | ⟨b, cap, cur, h1, h2, h3, h4⟩
  · exact .inl h2
  · exact .inr ⟨b, cap, cur, h1, h2, (g.block b (Array.getElem?_eq_some_iff.1 h3).1 (fun e => by injection e; omega)).trans h3, h4⟩
theorem grown_own {a b c : World} {R : Nat} {row : Option Nat} (h : a.grownBy b (some R)) (k : b.grownBy c row) (hr : ∀ j, row = some j → a.heap.size ≤ j) : a.grownBy c (some R) :=
  ⟨k.os.trans h.os, k.tape.trans h.tape, k.output.trans h.output, Nat.le_trans h.size k.size, fun i hi hne => (k.block i (Nat.lt_of_lt_of_le hi h.size) (fun e => by have := hr i e.symm; omega)).trans (h.block i hi hne)⟩
theorem grown_none {w w' : World} (g : w.grownBy w' none) : Below w.heap.size w w' := ⟨g.os, g.tape, g.output, g.size, fun k hk => g.block k hk (by simp)⟩
theorem ListAt.next {B C n : Nat} {v : Value} {W W' : World} (h : ListAt B n v W) (hC : C ≤ B) (hb : Below W.heap.size W W') : ListAt C n v W' := by
  obtain ⟨g, cap, zs, h1, h2, h3, h4, h5, h6, h7⟩ := h
  exact ⟨g, cap, zs, h1, h2, Nat.le_trans hC h3, Nat.lt_of_lt_of_le h4 hb.size, h5, h6, fun j hj => (hb.cell (p := ⟨g, j, none⟩) h4).trans (h7 j hj)⟩

set_option maxRecDepth 10000 in
set_option maxHeartbeats 4000000 in
theorem numsD (R : Nat) (a : Option Addr) (m c : Nat) (z : Nat → Int) (p : Nat) (w : World) (h : Rd w R a m c z p) (hp : p < 700000) :
    Calls Try.prog 33 #[.pointer (some ⟨R, 0, none⟩), .int .i64 12] w fun e w' => ∃ v p', e = .returned v ∧ ListAt w.heap.size 12 v w' ∧ p' ≤ p + 36 ∧ Rd w' R a m c z p' ∧ w.grownBy w' (some R) := by
  obtain ⟨i0, hi, hz0, hz1, hz2⟩ := info_parts infoIntL
  have hRs := h.size
  go_enter Try.func33, Try.ntmps33
  go_wp2_with fail
  have rd0 := h.kept (World.grownBy_alloc w (.cells #[] 3) none) (by simp)
  have own0 : Owns w.heap.size 3 (.slice (some ⟨w.heap.size, 0, none⟩) 0 0) [] (w.alloc (.cells #[] 3)) := by
    refine ⟨rfl, .inr ⟨w.heap.size, 0, #[], rfl, Nat.le_refl _, by show (w.heap.push (.cells #[] 3))[w.heap.size]? = some _; simp, Nat.le_refl _, by simp [maxLen], rfl, rfl⟩⟩
  have gr0 : w.grownBy (w.alloc (.cells #[] 3)) (some R) := World.grownBy_alloc _ _ _
  clear h
  go_loopw [5, 6] (fun v i W => ∃ (k : Nat) (zs : List Int) (p' : Nat), k ≤ 12 ∧ i = .int .i64 k ∧ zs.length = k ∧ Inp zs ∧ Owns w.heap.size 3 v zs W ∧ p' ≤ p + 3 * k ∧ Rd W R a m c z p' ∧ w.grownBy W (some R)) (fun _ i _ => 12 - (intOf i).toNat)
  case atStart => exact ⟨0, [], p, by omega, rfl, rfl, (fun _ h => by cases h), own0, by omega, rd0, gr0⟩
  case round =>
    obtain ⟨k, zs, p1, hk, rfl, hlen, hin, own, hp1, rd, gr⟩ := hrel
    clear rd0 own0 gr0
    by_cases hlt : k < 12
    · have t1 : (k : Int) < 12 := by omega
      go_wp2_with fail
      refine (numS R a m c z p1 _ rd (by omega)).mono ?_
      rintro e w2 ⟨x, p2, hx1, hx2, rfl, hp2, h2, g2⟩
      have hB : w.heap.size ≤ w2.heap.size := Nat.le_trans gr.size g2.size
      have own2 : Owns w.heap.size 3 u5 zs (w2.alloc (.cells #[.int .i64 x] 3)) := (Owns.reader own hRs g2).alloc _
      have hl : zs.length ≤ 12 := by omega
      go_wp2_with (at_builtin; refine wpList_append_own _ rfl (.tmp 13) (.tmp 16) 35 rfl w.heap.size 3 i0 (.int .i64 0) 1 8 Try.underlying35 hi hz0 hz1 hz2 rfl (by decide) _ _ _ rfl own2 ⟨w2.heap.size, 0, none⟩ 1 1 [.int .i64 x] rfl rfl (one_cells (by simp)) (by simp [Value.oneCell']) (by simp [maxLen]; omega) (by omega) (by simp; omega) ?_)
      intro v' w' o' g' n'
      have O' : Owns w.heap.size 3 v' (zs ++ [x]) w' := by unfold Owns; simpa [hlen] using o'
      have ob : ∀ k, u5.ownBlock = some k → w.heap.size ≤ k := fun k hk => (World.ownsRow.lt own2 k hk).1
      have r' : Rd w' R a m c z p2 := (h2.kept (World.grownBy_alloc _ _ none) (by simp)).kept g' (fun k hk => by have := ob k hk; omega)
      have gw' : w.grownBy w' (some R) := grown_own (grown_trans (grown_trans gr g2) (World.grownBy_alloc _ _ _)) g' ob
      have hin' : Inp (zs ++ [x]) := by
        intro y hy
        rcases List.mem_append.1 hy with hy | hy
        · exact hin y hy
        · simp at hy; subst hy; exact ⟨hx1, hx2⟩
      clear o' g' n' own own2 ob h2 g2 rd gr hin
      go_wp2_with fail
      go_roundw
      case rel => exact ⟨k + 1, zs ++ [x], p2, by omega, by go_num, by simp; omega, hin', O', by omega, r', gw'⟩
      case measure => simp [intOf]; omega
    · obtain rfl : k = 12 := by omega
      obtain ⟨g, cap, hv, o1, o2, o3, o4, o5⟩ := own.form (by intro h; rw [h] at hlen; simp at hlen)
      rw [hlen] at o3 o4 hv
      subst hv
      go_wp2_with fail
      go_ret
      exact ⟨_, p1, rfl, ⟨g, cap, zs, rfl, o4, o1, o2, hlen, hin, o3⟩, by omega, rd, gr⟩

set_option maxHeartbeats 2000000 in
theorem drawInputs (a : Option Addr) (len cap : Nat) (z : Nat → Int) (w : World) (hz : ∀ i, 0 ≤ z i ∧ z i ≤ 255) (hl : len ≤ 1048576) (h : Bytes w a len cap z) :
    Calls Try.prog 19 #[.slice a len cap] w fun e w' => ∃ (n : Int) (v : Value), -32768 ≤ n ∧ n ≤ 32767 ∧ e = .returned (.tuple #[.int .i64 n, v]) ∧ ListAt w.heap.size 12 v w' ∧ Below w.heap.size w w' := by
  go_enter Try.func19, Try.ntmps19
  go_wp2_with fail
  refine (openS a len cap z _ hz hl h).mono ?_
  rintro e w1 ⟨m, c, rfl, h1, g1⟩
  go_wp2_with fail
  refine (numS _ a m c z 0 _ h1 (by omega)).mono ?_
  rintro e w2 ⟨n, p2, hn1, hn2, rfl, hp2, h2, g2⟩
  go_wp2_with fail
  refine (numsD _ a m c z p2 _ h2 (by omega)).mono ?_
  rintro e w3 ⟨v, p3, rfl, hv, hp3, h3, g3⟩
  have b3 : Below w.heap.size w w3 := below_at (below_at (grown_none g1) g2 (Nat.le_refl _)) g3 (Nat.le_refl _)
  have s2 : w.heap.size ≤ w2.heap.size := Nat.le_trans g1.size g2.size
  go_wp2_with fail
  exact bodyPost_ret (v := .tuple #[.int .i64 n, v]) (by simp [results, Try.results19, go_sem]) rfl ⟨n, v, hn1, hn2, rfl, hv.next s2 (Below.refl _ _), b3⟩
end Go.Proofs.Ytiehokibfdaleaa
namespace Go.Proofs.Ytiehokibfdaleaa
open Go.ChangeShapes Go.WideShapes Go.ChangeAt Go.RowKit

set_option maxRecDepth 10000 in
set_option maxHeartbeats 8000000 in
theorem ofD (R : Nat) (a : Option Addr) (m c : Nat) (z : Nat → Int) (q : Nat) (lo hi : Int) (w : World) (h : Rd w R a m c z q) (hq : q < 500000) (h1 : -32768 ≤ lo) (h2 : lo ≤ hi) (h3 : hi ≤ 32767) :
    Calls Try.prog 51 #[.pointer (some ⟨R, 0, none⟩), .agg #[.int .i64 lo, .int .i64 hi]] w fun e w' => ∃ n p', lo ≤ n ∧ n ≤ hi ∧ e = .returned (.int .i64 n) ∧ p' ≤ q + 20 ∧ Rd w' R a m c z p' ∧ w.grownBy w' (some R) := by
  have hRs := h.size
  have D0 : Dr w R a m c z q [⟨w.heap.size, 0, IsV (.int .i64 lo)⟩, ⟨w.heap.size, 1, IsV (.int .i64 hi)⟩] (w.alloc (.cells #[.int .i64 lo, .int .i64 hi] 25)) := Dr.new ⟨⟨q, Nat.le_refl _, h⟩, grown_refl _ _, Fs.nil _ _ _⟩ rfl rfl
  have mA : (⟨w.heap.size, 0, IsV (.int .i64 lo)⟩ : Sp) ∈ [(⟨w.heap.size, 0, IsV (.int .i64 lo)⟩ : Sp), ⟨w.heap.size, 1, IsV (.int .i64 hi)⟩] := by simp
  have mB : (⟨w.heap.size, 1, IsV (.int .i64 hi)⟩ : Sp) ∈ [(⟨w.heap.size, 0, IsV (.int .i64 lo)⟩ : Sp), ⟨w.heap.size, 1, IsV (.int .i64 hi)⟩] := by simp
  go_enter Try.func51, Try.ntmps51
  go_wp2_with fail
  obtain ⟨p0, hp0, hr0⟩ := D0.rd
  refine (pick R a m c z p0 4 _ hr0 (by omega) (by omega) (by omega)).mono ?_
  rintro e w4 ⟨y4, hy4, hy4', rfl, h4, g4⟩
  have D4 : Dr w R a m c z (q + 1) _ w4 := D0.next h4 g4 (by omega)
  clear D0 h4 g4 hr0
  obtain ⟨v0, d0, rfl⟩ := D4.has mA
  obtain ⟨v1, d1, rfl⟩ := D4.has mB
  dsimp only at d0 d1
  have hS0 : DS w R a m c z (q + 1) 1 13 _ (fun _ => false) w4.drew := DS.start D4.drew
  have fin : ∀ n, lo ≤ n → n ≤ hi → ∃ n' p', lo ≤ n' ∧ n' ≤ hi ∧ Ending.returned (.int .i64 n) = .returned (.int .i64 n') ∧ p' ≤ q + 20 ∧ Rd w4 R a m c z p' ∧ w.grownBy w4 (some R) := by
    intro n k1 k2
    obtain ⟨p, hp, hr⟩ := D4.rd
    exact ⟨n, p, k1, k2, rfl, by omega, hr, D4.grown⟩
  obtain rfl | rfl | rfl | rfl : y4 = 0 ∨ y4 = 1 ∨ y4 = 2 ∨ y4 = 3 := by omega
  · go_wp2_with fail
    go_ret
    exact fin lo (by omega) (by omega)
  · go_wp2_with fail
    go_ret
    exact fin hi (by omega) (by omega)
  · by_cases e0 : lo ≤ 0 ∧ 0 ≤ hi
    · obtain ⟨e1, e2⟩ := e0
      go_wp2_with fail
      go_ret
      exact fin 0 (by omega) (by omega)
    · by_cases e1 : lo ≤ 0
      · have e2 : ¬ (0 ≤ hi) := fun k => e0 ⟨e1, k⟩
        go_wp2_with fail
        rename_i hK
        refine region_inv3 [(0, 31), (1, 32), (2, 33), (3, 34), (4, 35), (5, 36), (6, 37), (7, 38), (8, 39), (9, 40), (10, 41), (11, 42), (12, 4)]
          (fun j v _ => match j with
            | 0 => Is (.pointer (some ⟨w.heap.size, 0, none⟩)) v
            | 1 => Is (.int .i64 (lo)) v
            | 2 => Is (.pointer (some ⟨R, 0, none⟩)) v
            | 3 => Rng (0) (255) v
            | 4 => Rng (0) (65280) v
            | 5 => Is (.pointer (some ⟨R, 0, none⟩)) v
            | 6 => Rng (0) (255) v
            | 7 => Rng (0) (65535) v
            | 8 => Is (.int .i64 (hi - lo)) v
            | 9 => Is (.int .i64 (hi - lo + 1)) v
            | 10 => Rng (0) (hi - lo) v
            | 11 => Rng (lo) (hi) v
            | 12 => Rng (lo) (hi) v
            | _ => True)
          (DS w R a m c z (q + 1) 1 13 [⟨w.heap.size, 0, IsV (.int .i64 lo)⟩, ⟨w.heap.size, 1, IsV (.int .i64 hi)⟩]) TT
          (by kernel_rfl) (by kernel_rfl) (by kernel_rfl) (by kernel_rfl) (by kernel_rfl) rfl hS0 (fun i j v W W' _ h _ => h) ?_ ?_
        · intro i L vals W hi' hφ hS hL hd
          have hi2 : i < 13 := hi'
          have hbd := DS.bd (K := 1) (n := 13) (L := L)
          obtain ⟨p, hp, hr⟩ := hS.rd
          have hrs := hr.size
          rcases (show i = 0 ∨ i = 1 ∨ i = 2 ∨ i = 3 ∨ i = 4 ∨ i = 5 ∨ i = 6 ∨ i = 7 ∨ i = 8 ∨ i = 9 ∨ i = 10 ∨ i = 11 ∨ i = 12 by omega) with rfl | rfl | rfl | rfl | rfl | rfl | rfl | rfl | rfl | rfl | rfl | rfl | rfl
          · refine wpAt_of rfl rfl ?_
            simp only [frOf, Act.put]
            go_wp2_with fail
            first | exact ⟨trivial, rfl, trivial, DS.pure hS hL (by decide)⟩ | exact ⟨rfl, trivial, DS.pure hS hL (by decide)⟩
          · have k0 : vals 0 = .pointer (some ⟨w.heap.size, 0, none⟩) := hφ 0 (hd 0 (by decide))
            obtain ⟨v0, d0, rfl⟩ := Dr.has hS mA
            refine wpAt_of rfl rfl ?_
            simp only [frOf, Act.put]
            go_wp2_with fail
            first | exact ⟨trivial, rfl, trivial, DS.pure hS hL (by decide)⟩ | exact ⟨rfl, trivial, DS.pure hS hL (by decide)⟩
          · refine wpAt_of rfl rfl ?_
            simp only [frOf, Act.put]
            go_wp2_with fail
            first | exact ⟨trivial, rfl, trivial, DS.pure hS hL (by decide)⟩ | exact ⟨rfl, trivial, DS.pure hS hL (by decide)⟩
          · have k2 : vals 2 = .pointer (some ⟨R, 0, none⟩) := hφ 2 (hd 2 (by decide))
            refine wpAt_of rfl rfl ?_
            simp only [frOf, Act.put]
            go_wp2_with fail
            refine (pick R a m c z p 256 _ hr (by omega) (by omega) (by omega)).mono ?_
            rintro e W' ⟨x, hx1, hx2, rfl, hr', g⟩
            go_wp2_with fail
            first | exact ⟨trivial, ⟨x, hx1, by omega, rfl⟩, trivial, DS.call hS hL (by decide) hr' g (by omega)⟩ | exact ⟨⟨x, hx1, by omega, rfl⟩, trivial, DS.call hS hL (by decide) hr' g (by omega)⟩
          · obtain ⟨n3, l3, u3, k3⟩ : Rng (0) (255) (vals 3) := hφ 3 (hd 3 (by decide))
            refine wpAt_of rfl rfl ?_
            simp only [frOf, Act.put]
            go_wp2_with fail
            first | exact ⟨trivial, ⟨_, by first | assumption | omega, by first | assumption | omega, rfl⟩, trivial, DS.pure hS hL (by decide)⟩ | exact ⟨⟨_, by first | assumption | omega, by first | assumption | omega, rfl⟩, trivial, DS.pure hS hL (by decide)⟩
          · refine wpAt_of rfl rfl ?_
            simp only [frOf, Act.put]
            go_wp2_with fail
            first | exact ⟨trivial, rfl, trivial, DS.pure hS hL (by decide)⟩ | exact ⟨rfl, trivial, DS.pure hS hL (by decide)⟩
          · have k5 : vals 5 = .pointer (some ⟨R, 0, none⟩) := hφ 5 (hd 5 (by decide))
            refine wpAt_of rfl rfl ?_
            simp only [frOf, Act.put]
            go_wp2_with fail
            refine (pick R a m c z p 256 _ hr (by omega) (by omega) (by omega)).mono ?_
            rintro e W' ⟨x, hx1, hx2, rfl, hr', g⟩
            go_wp2_with fail
            first | exact ⟨trivial, ⟨x, hx1, by omega, rfl⟩, trivial, DS.call hS hL (by decide) hr' g (by omega)⟩ | exact ⟨⟨x, hx1, by omega, rfl⟩, trivial, DS.call hS hL (by decide) hr' g (by omega)⟩
          · obtain ⟨n4, l4, u4, k4⟩ : Rng (0) (65280) (vals 4) := hφ 4 (hd 4 (by decide))
            obtain ⟨n6, l6, u6, k6⟩ : Rng (0) (255) (vals 6) := hφ 6 (hd 6 (by decide))
            refine wpAt_of rfl rfl ?_
            simp only [frOf, Act.put]
            go_wp2_with fail
            first | exact ⟨trivial, ⟨_, by first | assumption | omega, by first | assumption | omega, rfl⟩, trivial, DS.pure hS hL (by decide)⟩ | exact ⟨⟨_, by first | assumption | omega, by first | assumption | omega, rfl⟩, trivial, DS.pure hS hL (by decide)⟩
          · refine wpAt_of rfl rfl ?_
            simp only [frOf, Act.put]
            go_wp2_with fail
            first | exact ⟨trivial, rfl, trivial, DS.pure hS hL (by decide)⟩ | exact ⟨rfl, trivial, DS.pure hS hL (by decide)⟩
          · have k8 : vals 8 = .int .i64 (hi - lo) := hφ 8 (hd 8 (by decide))
            refine wpAt_of rfl rfl ?_
            simp only [frOf, Act.put]
            go_wp2_with fail
            first | exact ⟨trivial, rfl, trivial, DS.pure hS hL (by decide)⟩ | exact ⟨rfl, trivial, DS.pure hS hL (by decide)⟩
          · obtain ⟨n7, l7, u7, k7⟩ : Rng (0) (65535) (vals 7) := hφ 7 (hd 7 (by decide))
            have k9 : vals 9 = .int .i64 (hi - lo + 1) := hφ 9 (hd 9 (by decide))
            have e2 : hi - lo + 1 ≠ 0 := by omega
            have q1 := Int.emod_nonneg n7 e2
            have q2 := Int.emod_lt_of_pos n7 (show 0 < hi - lo + 1 by omega)
            refine wpAt_of rfl rfl ?_
            simp only [frOf, Act.put]
            go_wp2_with fail
            first | exact ⟨trivial, ⟨_, q1, by omega, rfl⟩, trivial, DS.pure hS hL (by decide)⟩ | exact ⟨⟨_, q1, by omega, rfl⟩, trivial, DS.pure hS hL (by decide)⟩
          · have k1 : vals 1 = .int .i64 (lo) := hφ 1 (hd 1 (by decide))
            obtain ⟨n10, l10, u10, k10⟩ : Rng (0) (hi - lo) (vals 10) := hφ 10 (hd 10 (by decide))
            refine wpAt_of rfl rfl ?_
            simp only [frOf, Act.put]
            go_wp2_with fail
            first | exact ⟨trivial, ⟨_, by first | assumption | omega, by first | assumption | omega, rfl⟩, trivial, DS.pure hS hL (by decide)⟩ | exact ⟨⟨_, by first | assumption | omega, by first | assumption | omega, rfl⟩, trivial, DS.pure hS hL (by decide)⟩
          · obtain ⟨n11, l11, u11, k11⟩ : Rng (lo) (hi) (vals 11) := hφ 11 (hd 11 (by decide))
            refine wpAt_of rfl rfl ?_
            simp only [frOf, Act.put]
            go_wp2_with fail
            first | exact ⟨trivial, ⟨_, by first | assumption | omega, by first | assumption | omega, rfl⟩, trivial, DS.pure hS hL (by decide)⟩ | exact ⟨⟨_, by first | assumption | omega, by first | assumption | omega, rfl⟩, trivial, DS.pure hS hL (by decide)⟩
        · intro L vals W hall hφ hS'
          have hS := hS'.done
          clear hS'
          have k0 : vals 0 = .pointer (some ⟨w.heap.size, 0, none⟩) := hφ 0 (by decide)
          have k1 : vals 1 = .int .i64 (lo) := hφ 1 (by decide)
          have k2 : vals 2 = .pointer (some ⟨R, 0, none⟩) := hφ 2 (by decide)
          obtain ⟨n3, l3, u3, k3⟩ : Rng (0) (255) (vals 3) := hφ 3 (by decide)
          obtain ⟨n4, l4, u4, k4⟩ : Rng (0) (65280) (vals 4) := hφ 4 (by decide)
          have k5 : vals 5 = .pointer (some ⟨R, 0, none⟩) := hφ 5 (by decide)
          obtain ⟨n6, l6, u6, k6⟩ : Rng (0) (255) (vals 6) := hφ 6 (by decide)
          obtain ⟨n7, l7, u7, k7⟩ : Rng (0) (65535) (vals 7) := hφ 7 (by decide)
          have k8 : vals 8 = .int .i64 (hi - lo) := hφ 8 (by decide)
          have k9 : vals 9 = .int .i64 (hi - lo + 1) := hφ 9 (by decide)
          obtain ⟨n10, l10, u10, k10⟩ : Rng (0) (hi - lo) (vals 10) := hφ 10 (by decide)
          obtain ⟨n11, l11, u11, k11⟩ : Rng (lo) (hi) (vals 11) := hφ 11 (by decide)
          obtain ⟨n12, l12, u12, k12⟩ : Rng (lo) (hi) (vals 12) := hφ 12 (by decide)
          simp only [frOf, Act.put, List.setIfInBounds_toArray, List.set_cons_succ, List.set_cons_zero, k0, k1, k2, k3, k4, k5, k6, k7, k8, k9, k10, k11, k12]
          clear k0 k1 k2 k3 k4 k5 k6 k7 k8 k9 k10 k11 k12 hall hφ hS0
          refine hK _ _ ?_
          go_wp2_with fail
          go_ret
          obtain ⟨p, hp, hr⟩ := hS.rd
          exact ⟨_, p, by assumption, by assumption, rfl, by omega, hr, hS.grown⟩
      · go_wp2_with fail
        refine region_inv3 [(0, 31), (1, 32), (2, 33), (3, 34), (4, 35), (5, 36), (6, 37), (7, 38), (8, 39), (9, 40), (10, 41), (11, 42), (12, 4)]
          (fun j v _ => match j with
            | 0 => Is (.pointer (some ⟨w.heap.size, 0, none⟩)) v
            | 1 => Is (.int .i64 (lo)) v
            | 2 => Is (.pointer (some ⟨R, 0, none⟩)) v
            | 3 => Rng (0) (255) v
            | 4 => Rng (0) (65280) v
            | 5 => Is (.pointer (some ⟨R, 0, none⟩)) v
            | 6 => Rng (0) (255) v
            | 7 => Rng (0) (65535) v
            | 8 => Is (.int .i64 (hi - lo)) v
            | 9 => Is (.int .i64 (hi - lo + 1)) v
            | 10 => Rng (0) (hi - lo) v
            | 11 => Rng (lo) (hi) v
            | 12 => Rng (lo) (hi) v
            | _ => True)
          (DS w R a m c z (q + 1) 1 13 [⟨w.heap.size, 0, IsV (.int .i64 lo)⟩, ⟨w.heap.size, 1, IsV (.int .i64 hi)⟩]) TT
          (by kernel_rfl) (by kernel_rfl) (by kernel_rfl) (by kernel_rfl) (by kernel_rfl) rfl hS0 (fun i j v W W' _ h _ => h) ?_ ?_
        · intro i L vals W hi' hφ hS hL hd
          have hi2 : i < 13 := hi'
          have hbd := DS.bd (K := 1) (n := 13) (L := L)
          obtain ⟨p, hp, hr⟩ := hS.rd
          have hrs := hr.size
          rcases (show i = 0 ∨ i = 1 ∨ i = 2 ∨ i = 3 ∨ i = 4 ∨ i = 5 ∨ i = 6 ∨ i = 7 ∨ i = 8 ∨ i = 9 ∨ i = 10 ∨ i = 11 ∨ i = 12 by omega) with rfl | rfl | rfl | rfl | rfl | rfl | rfl | rfl | rfl | rfl | rfl | rfl | rfl
          · refine wpAt_of rfl rfl ?_
            simp only [frOf, Act.put]
            go_wp2_with fail
            first | exact ⟨trivial, rfl, trivial, DS.pure hS hL (by decide)⟩ | exact ⟨rfl, trivial, DS.pure hS hL (by decide)⟩
          · have k0 : vals 0 = .pointer (some ⟨w.heap.size, 0, none⟩) := hφ 0 (hd 0 (by decide))
            obtain ⟨v0, d0, rfl⟩ := Dr.has hS mA
            refine wpAt_of rfl rfl ?_
            simp only [frOf, Act.put]
            go_wp2_with fail
            first | exact ⟨trivial, rfl, trivial, DS.pure hS hL (by decide)⟩ | exact ⟨rfl, trivial, DS.pure hS hL (by decide)⟩
          · refine wpAt_of rfl rfl ?_
            simp only [frOf, Act.put]
            go_wp2_with fail
            first | exact ⟨trivial, rfl, trivial, DS.pure hS hL (by decide)⟩ | exact ⟨rfl, trivial, DS.pure hS hL (by decide)⟩
          · have k2 : vals 2 = .pointer (some ⟨R, 0, none⟩) := hφ 2 (hd 2 (by decide))
            refine wpAt_of rfl rfl ?_
            simp only [frOf, Act.put]
            go_wp2_with fail
            refine (pick R a m c z p 256 _ hr (by omega) (by omega) (by omega)).mono ?_
            rintro e W' ⟨x, hx1, hx2, rfl, hr', g⟩
            go_wp2_with fail
            first | exact ⟨trivial, ⟨x, hx1, by omega, rfl⟩, trivial, DS.call hS hL (by decide) hr' g (by omega)⟩ | exact ⟨⟨x, hx1, by omega, rfl⟩, trivial, DS.call hS hL (by decide) hr' g (by omega)⟩
          · obtain ⟨n3, l3, u3, k3⟩ : Rng (0) (255) (vals 3) := hφ 3 (hd 3 (by decide))
            refine wpAt_of rfl rfl ?_
            simp only [frOf, Act.put]
            go_wp2_with fail
            first | exact ⟨trivial, ⟨_, by first | assumption | omega, by first | assumption | omega, rfl⟩, trivial, DS.pure hS hL (by decide)⟩ | exact ⟨⟨_, by first | assumption | omega, by first | assumption | omega, rfl⟩, trivial, DS.pure hS hL (by decide)⟩
          · refine wpAt_of rfl rfl ?_
            simp only [frOf, Act.put]
            go_wp2_with fail
            first | exact ⟨trivial, rfl, trivial, DS.pure hS hL (by decide)⟩ | exact ⟨rfl, trivial, DS.pure hS hL (by decide)⟩
          · have k5 : vals 5 = .pointer (some ⟨R, 0, none⟩) := hφ 5 (hd 5 (by decide))
            refine wpAt_of rfl rfl ?_
            simp only [frOf, Act.put]
            go_wp2_with fail
            refine (pick R a m c z p 256 _ hr (by omega) (by omega) (by omega)).mono ?_
            rintro e W' ⟨x, hx1, hx2, rfl, hr', g⟩
            go_wp2_with fail
            first | exact ⟨trivial, ⟨x, hx1, by omega, rfl⟩, trivial, DS.call hS hL (by decide) hr' g (by omega)⟩ | exact ⟨⟨x, hx1, by omega, rfl⟩, trivial, DS.call hS hL (by decide) hr' g (by omega)⟩
          · obtain ⟨n4, l4, u4, k4⟩ : Rng (0) (65280) (vals 4) := hφ 4 (hd 4 (by decide))
            obtain ⟨n6, l6, u6, k6⟩ : Rng (0) (255) (vals 6) := hφ 6 (hd 6 (by decide))
            refine wpAt_of rfl rfl ?_
            simp only [frOf, Act.put]
            go_wp2_with fail
            first | exact ⟨trivial, ⟨_, by first | assumption | omega, by first | assumption | omega, rfl⟩, trivial, DS.pure hS hL (by decide)⟩ | exact ⟨⟨_, by first | assumption | omega, by first | assumption | omega, rfl⟩, trivial, DS.pure hS hL (by decide)⟩
          · refine wpAt_of rfl rfl ?_
            simp only [frOf, Act.put]
            go_wp2_with fail
            first | exact ⟨trivial, rfl, trivial, DS.pure hS hL (by decide)⟩ | exact ⟨rfl, trivial, DS.pure hS hL (by decide)⟩
          · have k8 : vals 8 = .int .i64 (hi - lo) := hφ 8 (hd 8 (by decide))
            refine wpAt_of rfl rfl ?_
            simp only [frOf, Act.put]
            go_wp2_with fail
            first | exact ⟨trivial, rfl, trivial, DS.pure hS hL (by decide)⟩ | exact ⟨rfl, trivial, DS.pure hS hL (by decide)⟩
          · obtain ⟨n7, l7, u7, k7⟩ : Rng (0) (65535) (vals 7) := hφ 7 (hd 7 (by decide))
            have k9 : vals 9 = .int .i64 (hi - lo + 1) := hφ 9 (hd 9 (by decide))
            have e2 : hi - lo + 1 ≠ 0 := by omega
            have q1 := Int.emod_nonneg n7 e2
            have q2 := Int.emod_lt_of_pos n7 (show 0 < hi - lo + 1 by omega)
            refine wpAt_of rfl rfl ?_
            simp only [frOf, Act.put]
            go_wp2_with fail
            first | exact ⟨trivial, ⟨_, q1, by omega, rfl⟩, trivial, DS.pure hS hL (by decide)⟩ | exact ⟨⟨_, q1, by omega, rfl⟩, trivial, DS.pure hS hL (by decide)⟩
          · have k1 : vals 1 = .int .i64 (lo) := hφ 1 (hd 1 (by decide))
            obtain ⟨n10, l10, u10, k10⟩ : Rng (0) (hi - lo) (vals 10) := hφ 10 (hd 10 (by decide))
            refine wpAt_of rfl rfl ?_
            simp only [frOf, Act.put]
            go_wp2_with fail
            first | exact ⟨trivial, ⟨_, by first | assumption | omega, by first | assumption | omega, rfl⟩, trivial, DS.pure hS hL (by decide)⟩ | exact ⟨⟨_, by first | assumption | omega, by first | assumption | omega, rfl⟩, trivial, DS.pure hS hL (by decide)⟩
          · obtain ⟨n11, l11, u11, k11⟩ : Rng (lo) (hi) (vals 11) := hφ 11 (hd 11 (by decide))
            refine wpAt_of rfl rfl ?_
            simp only [frOf, Act.put]
            go_wp2_with fail
            first | exact ⟨trivial, ⟨_, by first | assumption | omega, by first | assumption | omega, rfl⟩, trivial, DS.pure hS hL (by decide)⟩ | exact ⟨⟨_, by first | assumption | omega, by first | assumption | omega, rfl⟩, trivial, DS.pure hS hL (by decide)⟩
        · intro L vals W hall hφ hS'
          have hS := hS'.done
          clear hS'
          have k0 : vals 0 = .pointer (some ⟨w.heap.size, 0, none⟩) := hφ 0 (by decide)
          have k1 : vals 1 = .int .i64 (lo) := hφ 1 (by decide)
          have k2 : vals 2 = .pointer (some ⟨R, 0, none⟩) := hφ 2 (by decide)
          obtain ⟨n3, l3, u3, k3⟩ : Rng (0) (255) (vals 3) := hφ 3 (by decide)
          obtain ⟨n4, l4, u4, k4⟩ : Rng (0) (65280) (vals 4) := hφ 4 (by decide)
          have k5 : vals 5 = .pointer (some ⟨R, 0, none⟩) := hφ 5 (by decide)
          obtain ⟨n6, l6, u6, k6⟩ : Rng (0) (255) (vals 6) := hφ 6 (by decide)
          obtain ⟨n7, l7, u7, k7⟩ : Rng (0) (65535) (vals 7) := hφ 7 (by decide)
          have k8 : vals 8 = .int .i64 (hi - lo) := hφ 8 (by decide)
          have k9 : vals 9 = .int .i64 (hi - lo + 1) := hφ 9 (by decide)
          obtain ⟨n10, l10, u10, k10⟩ : Rng (0) (hi - lo) (vals 10) := hφ 10 (by decide)
          obtain ⟨n11, l11, u11, k11⟩ : Rng (lo) (hi) (vals 11) := hφ 11 (by decide)
          obtain ⟨n12, l12, u12, k12⟩ : Rng (lo) (hi) (vals 12) := hφ 12 (by decide)
          simp only [frOf, Act.put, List.setIfInBounds_toArray, List.set_cons_succ, List.set_cons_zero, k0, k1, k2, k3, k4, k5, k6, k7, k8, k9, k10, k11, k12]
          clear k0 k1 k2 k3 k4 k5 k6 k7 k8 k9 k10 k11 k12 hall hφ hS0
          go_wp2_with fail
          go_ret
          obtain ⟨p, hp, hr⟩ := hS.rd
          exact ⟨_, p, by assumption, by assumption, rfl, by omega, hr, hS.grown⟩
  · go_wp2_with fail
    refine region_inv3 [(0, 31), (1, 32), (2, 33), (3, 34), (4, 35), (5, 36), (6, 37), (7, 38), (8, 39), (9, 40), (10, 41), (11, 42), (12, 4)]
      (fun j v _ => match j with
        | 0 => Is (.pointer (some ⟨w.heap.size, 0, none⟩)) v
        | 1 => Is (.int .i64 (lo)) v
        | 2 => Is (.pointer (some ⟨R, 0, none⟩)) v
        | 3 => Rng (0) (255) v
        | 4 => Rng (0) (65280) v
        | 5 => Is (.pointer (some ⟨R, 0, none⟩)) v
        | 6 => Rng (0) (255) v
        | 7 => Rng (0) (65535) v
        | 8 => Is (.int .i64 (hi - lo)) v
        | 9 => Is (.int .i64 (hi - lo + 1)) v
        | 10 => Rng (0) (hi - lo) v
        | 11 => Rng (lo) (hi) v
        | 12 => Rng (lo) (hi) v
        | _ => True)
      (DS w R a m c z (q + 1) 1 13 [⟨w.heap.size, 0, IsV (.int .i64 lo)⟩, ⟨w.heap.size, 1, IsV (.int .i64 hi)⟩]) TT
      (by kernel_rfl) (by kernel_rfl) (by kernel_rfl) (by kernel_rfl) (by kernel_rfl) rfl hS0 (fun i j v W W' _ h _ => h) ?_ ?_
    · intro i L vals W hi' hφ hS hL hd
      have hi2 : i < 13 := hi'
      have hbd := DS.bd (K := 1) (n := 13) (L := L)
      obtain ⟨p, hp, hr⟩ := hS.rd
      have hrs := hr.size
      rcases (show i = 0 ∨ i = 1 ∨ i = 2 ∨ i = 3 ∨ i = 4 ∨ i = 5 ∨ i = 6 ∨ i = 7 ∨ i = 8 ∨ i = 9 ∨ i = 10 ∨ i = 11 ∨ i = 12 by omega) with rfl | rfl | rfl | rfl | rfl | rfl | rfl | rfl | rfl | rfl | rfl | rfl | rfl
      · refine wpAt_of rfl rfl ?_
        simp only [frOf, Act.put]
        go_wp2_with fail
        first | exact ⟨trivial, rfl, trivial, DS.pure hS hL (by decide)⟩ | exact ⟨rfl, trivial, DS.pure hS hL (by decide)⟩
      · have k0 : vals 0 = .pointer (some ⟨w.heap.size, 0, none⟩) := hφ 0 (hd 0 (by decide))
        obtain ⟨v0, d0, rfl⟩ := Dr.has hS mA
        refine wpAt_of rfl rfl ?_
        simp only [frOf, Act.put]
        go_wp2_with fail
        first | exact ⟨trivial, rfl, trivial, DS.pure hS hL (by decide)⟩ | exact ⟨rfl, trivial, DS.pure hS hL (by decide)⟩
      · refine wpAt_of rfl rfl ?_
        simp only [frOf, Act.put]
        go_wp2_with fail
        first | exact ⟨trivial, rfl, trivial, DS.pure hS hL (by decide)⟩ | exact ⟨rfl, trivial, DS.pure hS hL (by decide)⟩
      · have k2 : vals 2 = .pointer (some ⟨R, 0, none⟩) := hφ 2 (hd 2 (by decide))
        refine wpAt_of rfl rfl ?_
        simp only [frOf, Act.put]
        go_wp2_with fail
        refine (pick R a m c z p 256 _ hr (by omega) (by omega) (by omega)).mono ?_
        rintro e W' ⟨x, hx1, hx2, rfl, hr', g⟩
        go_wp2_with fail
        first | exact ⟨trivial, ⟨x, hx1, by omega, rfl⟩, trivial, DS.call hS hL (by decide) hr' g (by omega)⟩ | exact ⟨⟨x, hx1, by omega, rfl⟩, trivial, DS.call hS hL (by decide) hr' g (by omega)⟩
      · obtain ⟨n3, l3, u3, k3⟩ : Rng (0) (255) (vals 3) := hφ 3 (hd 3 (by decide))
        refine wpAt_of rfl rfl ?_
        simp only [frOf, Act.put]
        go_wp2_with fail
        first | exact ⟨trivial, ⟨_, by first | assumption | omega, by first | assumption | omega, rfl⟩, trivial, DS.pure hS hL (by decide)⟩ | exact ⟨⟨_, by first | assumption | omega, by first | assumption | omega, rfl⟩, trivial, DS.pure hS hL (by decide)⟩
      · refine wpAt_of rfl rfl ?_
        simp only [frOf, Act.put]
        go_wp2_with fail
        first | exact ⟨trivial, rfl, trivial, DS.pure hS hL (by decide)⟩ | exact ⟨rfl, trivial, DS.pure hS hL (by decide)⟩
      · have k5 : vals 5 = .pointer (some ⟨R, 0, none⟩) := hφ 5 (hd 5 (by decide))
        refine wpAt_of rfl rfl ?_
        simp only [frOf, Act.put]
        go_wp2_with fail
        refine (pick R a m c z p 256 _ hr (by omega) (by omega) (by omega)).mono ?_
        rintro e W' ⟨x, hx1, hx2, rfl, hr', g⟩
        go_wp2_with fail
        first | exact ⟨trivial, ⟨x, hx1, by omega, rfl⟩, trivial, DS.call hS hL (by decide) hr' g (by omega)⟩ | exact ⟨⟨x, hx1, by omega, rfl⟩, trivial, DS.call hS hL (by decide) hr' g (by omega)⟩
      · obtain ⟨n4, l4, u4, k4⟩ : Rng (0) (65280) (vals 4) := hφ 4 (hd 4 (by decide))
        obtain ⟨n6, l6, u6, k6⟩ : Rng (0) (255) (vals 6) := hφ 6 (hd 6 (by decide))
        refine wpAt_of rfl rfl ?_
        simp only [frOf, Act.put]
        go_wp2_with fail
        first | exact ⟨trivial, ⟨_, by first | assumption | omega, by first | assumption | omega, rfl⟩, trivial, DS.pure hS hL (by decide)⟩ | exact ⟨⟨_, by first | assumption | omega, by first | assumption | omega, rfl⟩, trivial, DS.pure hS hL (by decide)⟩
      · refine wpAt_of rfl rfl ?_
        simp only [frOf, Act.put]
        go_wp2_with fail
        first | exact ⟨trivial, rfl, trivial, DS.pure hS hL (by decide)⟩ | exact ⟨rfl, trivial, DS.pure hS hL (by decide)⟩
      · have k8 : vals 8 = .int .i64 (hi - lo) := hφ 8 (hd 8 (by decide))
        refine wpAt_of rfl rfl ?_
        simp only [frOf, Act.put]
        go_wp2_with fail
        first | exact ⟨trivial, rfl, trivial, DS.pure hS hL (by decide)⟩ | exact ⟨rfl, trivial, DS.pure hS hL (by decide)⟩
      · obtain ⟨n7, l7, u7, k7⟩ : Rng (0) (65535) (vals 7) := hφ 7 (hd 7 (by decide))
        have k9 : vals 9 = .int .i64 (hi - lo + 1) := hφ 9 (hd 9 (by decide))
        have e2 : hi - lo + 1 ≠ 0 := by omega
        have q1 := Int.emod_nonneg n7 e2
        have q2 := Int.emod_lt_of_pos n7 (show 0 < hi - lo + 1 by omega)
        refine wpAt_of rfl rfl ?_
        simp only [frOf, Act.put]
        go_wp2_with fail
        first | exact ⟨trivial, ⟨_, q1, by omega, rfl⟩, trivial, DS.pure hS hL (by decide)⟩ | exact ⟨⟨_, q1, by omega, rfl⟩, trivial, DS.pure hS hL (by decide)⟩
      · have k1 : vals 1 = .int .i64 (lo) := hφ 1 (hd 1 (by decide))
        obtain ⟨n10, l10, u10, k10⟩ : Rng (0) (hi - lo) (vals 10) := hφ 10 (hd 10 (by decide))
        refine wpAt_of rfl rfl ?_
        simp only [frOf, Act.put]
        go_wp2_with fail
        first | exact ⟨trivial, ⟨_, by first | assumption | omega, by first | assumption | omega, rfl⟩, trivial, DS.pure hS hL (by decide)⟩ | exact ⟨⟨_, by first | assumption | omega, by first | assumption | omega, rfl⟩, trivial, DS.pure hS hL (by decide)⟩
      · obtain ⟨n11, l11, u11, k11⟩ : Rng (lo) (hi) (vals 11) := hφ 11 (hd 11 (by decide))
        refine wpAt_of rfl rfl ?_
        simp only [frOf, Act.put]
        go_wp2_with fail
        first | exact ⟨trivial, ⟨_, by first | assumption | omega, by first | assumption | omega, rfl⟩, trivial, DS.pure hS hL (by decide)⟩ | exact ⟨⟨_, by first | assumption | omega, by first | assumption | omega, rfl⟩, trivial, DS.pure hS hL (by decide)⟩
    · intro L vals W hall hφ hS'
      have hS := hS'.done
      clear hS'
      have k0 : vals 0 = .pointer (some ⟨w.heap.size, 0, none⟩) := hφ 0 (by decide)
      have k1 : vals 1 = .int .i64 (lo) := hφ 1 (by decide)
      have k2 : vals 2 = .pointer (some ⟨R, 0, none⟩) := hφ 2 (by decide)
      obtain ⟨n3, l3, u3, k3⟩ : Rng (0) (255) (vals 3) := hφ 3 (by decide)
      obtain ⟨n4, l4, u4, k4⟩ : Rng (0) (65280) (vals 4) := hφ 4 (by decide)
      have k5 : vals 5 = .pointer (some ⟨R, 0, none⟩) := hφ 5 (by decide)
      obtain ⟨n6, l6, u6, k6⟩ : Rng (0) (255) (vals 6) := hφ 6 (by decide)
      obtain ⟨n7, l7, u7, k7⟩ : Rng (0) (65535) (vals 7) := hφ 7 (by decide)
      have k8 : vals 8 = .int .i64 (hi - lo) := hφ 8 (by decide)
      have k9 : vals 9 = .int .i64 (hi - lo + 1) := hφ 9 (by decide)
      obtain ⟨n10, l10, u10, k10⟩ : Rng (0) (hi - lo) (vals 10) := hφ 10 (by decide)
      obtain ⟨n11, l11, u11, k11⟩ : Rng (lo) (hi) (vals 11) := hφ 11 (by decide)
      obtain ⟨n12, l12, u12, k12⟩ : Rng (lo) (hi) (vals 12) := hφ 12 (by decide)
      simp only [frOf, Act.put, List.setIfInBounds_toArray, List.set_cons_succ, List.set_cons_zero, k0, k1, k2, k3, k4, k5, k6, k7, k8, k9, k10, k11, k12]
      clear k0 k1 k2 k3 k4 k5 k6 k7 k8 k9 k10 k11 k12 hall hφ hS0
      go_wp2_with fail
      go_ret
      obtain ⟨p, hp, hr⟩ := hS.rd
      exact ⟨_, p, by assumption, by assumption, rfl, by omega, hr, hS.grown⟩
theorem old_of {w : World} {a : Option Addr} {len cap m : Nat} {z : Nat → Int} (h : Bytes w a len cap z) (hm : m ≤ len) : Old w a m := by
  rcases h with h0 | ⟨b, off, rfl, hb, _, _⟩
  · exact .inl (by omega)
  · exact .inr fun b' off' e => by injection e with e; injection e with e; omega
set_option maxHeartbeats 1000000 in
theorem openS2 (a : Option Addr) (len cap : Nat) (z : Nat → Int) (w : World) (hz : ∀ i, 0 ≤ z i ∧ z i ≤ 255) (hl : len ≤ 1048576) (h : Bytes w a len cap z) :
    Calls Try.prog 31 #[.slice a len cap] w fun e w' => ∃ m c, m ≤ len ∧ e = .returned (.pointer (some ⟨w.heap.size, 0, none⟩)) ∧ Rd w' w.heap.size a m c z 0 ∧ w.grownBy w' none := by
  by_cases h2 : len ≤ 2000
  · go_enter Try.func31, Try.ntmps31
    go_wp2_with fail
    go_ret
    exact ⟨len, cap, Nat.le_refl _, rfl, rd_new w a len cap len cap z hz h (Nat.le_refl _) h2, World.grownBy_alloc _ _ _⟩
  · have h' := h
    rcases h' with h0 | ⟨b, off, rfl, hb, hlc, hc⟩
    · omega
    have i1 : (2000 : Int) < (len : Int) := by omega
    have i2 : (2000 : Int) ≤ (cap : Int) := by omega
    go_enter Try.func31, Try.ntmps31
    go_wp2_with fail
    go_ret
    exact ⟨2000, cap, by omega, rfl, rd_new w _ len cap 2000 cap z hz h (by omega) (by omega), World.grownBy_alloc _ _ _⟩
/-- What is known where a reader was opened behind memory that was made: one block of two ints. -/
theorem dr_open {w w1 : World} {a : Option Addr} {m c : Nat} {z : Nat → Int} {x y : Int} {t : TypeId} (hx : I64 x) (hy : I64 y) (h1 : Rd w1 (w.alloc (.cells #[.int .i64 x, .int .i64 y] t)).heap.size a m c z 0) (g1 : (w.alloc (.cells #[.int .i64 x, .int .i64 y] t)).grownBy w1 none) : Dr w (w.heap.size + 1) a m c z 0 [⟨w.heap.size, 0, IsI⟩, ⟨w.heap.size, 1, IsI⟩] w1 := by
  have e : (w.alloc (.cells #[.int .i64 x, .int .i64 y] t)).heap.size = w.heap.size + 1 := by simp
  rw [e] at h1
  have g2 : (w.alloc (.cells #[.int .i64 x, .int .i64 y] t)).grownBy w1 (some (w.heap.size + 1)) := ⟨g1.os, g1.tape, g1.output, g1.size, fun k hk _ => g1.block k hk (by simp)⟩
  refine ⟨⟨0, Nat.le_refl _, h1⟩, grown_trans (World.grownBy_alloc _ _ _) g2, ?_⟩
  refine Fs.next ?_ g2
  refine Fs.cons (by show w.heap.size ≠ _; omega) (Nat.le_refl _) (by show w.heap.size < _; simp) (by simp [go_sem]) (v := .int .i64 x) (by simp [go_sem]) ⟨x, rfl, hx⟩ ?_
  exact Fs.cons (by show w.heap.size ≠ _; omega) (Nat.le_refl _) (by show w.heap.size < _; simp) (by simp [go_sem]) (v := .int .i64 y) (by simp [go_sem]) ⟨y, rfl, hy⟩ (Fs.nil _ _ _)
theorem Dr.below0 {w : World} {R : Nat} {a : Option Addr} {m c : Nat} {z : Nat → Int} {Q : Nat} {F : List Sp} {W : World} (h : Dr w R a m c z Q F W) (hR : w.heap.size ≤ R) : Below w.heap.size w W := below_at (Below.refl _ _) h.grown hR
def Bo (v : Value) : Prop := ∃ t, v = .bool t

end Go.Proofs.Ytiehokibfdaleaa
namespace Go.Proofs.Ytiehokibfdaleaa
open Go.ChangeShapes Go.WideShapes Go.ChangeAt Go.RowKit

/-- Some step: eight ints. -/
def IsIns (v : Value) : Prop := ∃ x0 x1 x2 x3 x4 x5 x6 x7 : Int, v = .agg #[.int .i64 x0, .int .i64 x1, .int .i64 x2, .int .i64 x3, .int .i64 x4, .int .i64 x5, .int .i64 x6, .int .i64 x7] ∧ I64 x0 ∧ I64 x1 ∧ I64 x2 ∧ I64 x3 ∧ I64 x4 ∧ I64 x5 ∧ I64 x6 ∧ I64 x7
theorem old_rd {w : World} {R : Nat} {a : Option Addr} {m c : Nat} {z : Nat → Int} {p : Nat} (h : Rd w R a m c z p) : Old w a m := by
  rcases h.row with h0 | ⟨b, off, e, hb, _⟩
  · exact .inl h0
  · refine .inr fun b' off' e' => ?_
    rw [e] at e'
    injection e' with e'
    injection e' with e'
    have := h.size
    omega
theorem Dr.set8 {w : World} {R : Nat} {a : Option Addr} {m c : Nat} {z : Nat → Int} {Q : Nat} {F : List Sp} {W : World} (h : Dr w R a m c z Q F W) (ho : Old w a m) {B : Nat} (hB : B ≠ R) (hw : w.heap.size ≤ B) (hv : ∀ v, IsI v → ∀ f ∈ F, f.b = B → f.P v) {v0 v1 v2 v3 v4 v5 v6 v7 : Value} (i0 : IsI v0) (i1 : IsI v1) (i2 : IsI v2) (i3 : IsI v3) (i4 : IsI v4) (i5 : IsI v5) (i6 : IsI v6) (i7 : IsI v7) : Dr w R a m c z Q F ((((((((W.setCell ⟨B, 0, none⟩ v0).setCell ⟨B, 1, none⟩ v1).setCell ⟨B, 2, none⟩ v2).setCell ⟨B, 3, none⟩ v3).setCell ⟨B, 4, none⟩ v4).setCell ⟨B, 5, none⟩ v5).setCell ⟨B, 6, none⟩ v6).setCell ⟨B, 7, none⟩ v7) :=
  (((((((h.set ho hB hw (fun f hf hb _ => hv _ i0 f hf hb)).set ho hB hw (fun f hf hb _ => hv _ i1 f hf hb)).set ho hB hw (fun f hf hb _ => hv _ i2 f hf hb)).set ho hB hw (fun f hf hb _ => hv _ i3 f hf hb)).set ho hB hw (fun f hf hb _ => hv _ i4 f hf hb)).set ho hB hw (fun f hf hb _ => hv _ i5 f hf hb)).set ho hB hw (fun f hf hb _ => hv _ i6 f hf hb)).set ho hB hw (fun f hf hb _ => hv _ i7 f hf hb)
theorem Dr.at8 {w : World} {R : Nat} {a : Option Addr} {m c : Nat} {z : Nat → Int} {Q : Nat} {F : List Sp} {W : World} (h : Dr w R a m c z Q F W) {B : Nat} (hF : ∀ i, i < 8 → (⟨B, i, IsI⟩ : Sp) ∈ F) : ∃ x0 x1 x2 x3 x4 x5 x6 x7 : Int, (W.cell? ⟨B, 0, none⟩ = some (.int .i64 x0) ∧ W.cell? ⟨B, 1, none⟩ = some (.int .i64 x1) ∧ W.cell? ⟨B, 2, none⟩ = some (.int .i64 x2) ∧ W.cell? ⟨B, 3, none⟩ = some (.int .i64 x3) ∧ W.cell? ⟨B, 4, none⟩ = some (.int .i64 x4) ∧ W.cell? ⟨B, 5, none⟩ = some (.int .i64 x5) ∧ W.cell? ⟨B, 6, none⟩ = some (.int .i64 x6) ∧ W.cell? ⟨B, 7, none⟩ = some (.int .i64 x7)) ∧ (I64 x0 ∧ I64 x1 ∧ I64 x2 ∧ I64 x3 ∧ I64 x4 ∧ I64 x5 ∧ I64 x6 ∧ I64 x7) := by
  obtain ⟨_, c0, y0, rfl, k0⟩ := h.has (hF 0 (by omega))
  obtain ⟨_, c1, y1, rfl, k1⟩ := h.has (hF 1 (by omega))
  obtain ⟨_, c2, y2, rfl, k2⟩ := h.has (hF 2 (by omega))
  obtain ⟨_, c3, y3, rfl, k3⟩ := h.has (hF 3 (by omega))
  obtain ⟨_, c4, y4, rfl, k4⟩ := h.has (hF 4 (by omega))
  obtain ⟨_, c5, y5, rfl, k5⟩ := h.has (hF 5 (by omega))
  obtain ⟨_, c6, y6, rfl, k6⟩ := h.has (hF 6 (by omega))
  obtain ⟨_, c7, y7, rfl, k7⟩ := h.has (hF 7 (by omega))
  exact ⟨y0, y1, y2, y3, y4, y5, y6, y7, ⟨c0, c1, c2, c3, c4, c5, c6, c7⟩, ⟨k0, k1, k2, k3, k4, k5, k6, k7⟩⟩
theorem Dr.free8 {w : World} {R : Nat} {a : Option Addr} {m c : Nat} {z : Nat → Int} {Q : Nat} {F : List Sp} {W : World} (h : Dr w R a m c z Q F W) {B : Nat} (hF : ∀ i, i < 8 → (⟨B, i, IsI⟩ : Sp) ∈ F) : W.frozen? ⟨B, 0, none⟩ = false ∧ W.frozen? ⟨B, 1, none⟩ = false ∧ W.frozen? ⟨B, 2, none⟩ = false ∧ W.frozen? ⟨B, 3, none⟩ = false ∧ W.frozen? ⟨B, 4, none⟩ = false ∧ W.frozen? ⟨B, 5, none⟩ = false ∧ W.frozen? ⟨B, 6, none⟩ = false ∧ W.frozen? ⟨B, 7, none⟩ = false :=
  ⟨h.free (hF 0 (by omega)), h.free (hF 1 (by omega)), h.free (hF 2 (by omega)), h.free (hF 3 (by omega)), h.free (hF 4 (by omega)), h.free (hF 5 (by omega)), h.free (hF 6 (by omega)), h.free (hF 7 (by omega))⟩
theorem own8 {W : World} {B : Nat} {u0 u1 u2 u3 u4 u5 u6 u7 : Value} (k0 : W.cell? ⟨B, 0, none⟩ = some u0) (k1 : W.cell? ⟨B, 1, none⟩ = some u1) (k2 : W.cell? ⟨B, 2, none⟩ = some u2) (k3 : W.cell? ⟨B, 3, none⟩ = some u3) (k4 : W.cell? ⟨B, 4, none⟩ = some u4) (k5 : W.cell? ⟨B, 5, none⟩ = some u5) (k6 : W.cell? ⟨B, 6, none⟩ = some u6) (k7 : W.cell? ⟨B, 7, none⟩ = some u7) :
    (∀ x0, (W.setCell ⟨B, 0, none⟩ x0).cell? ⟨B, 0, none⟩ = some x0) ∧ (∀ x0 x1, ((W.setCell ⟨B, 0, none⟩ x0).setCell ⟨B, 1, none⟩ x1).cell? ⟨B, 1, none⟩ = some x1) ∧ (∀ x0 x1 x2, (((W.setCell ⟨B, 0, none⟩ x0).setCell ⟨B, 1, none⟩ x1).setCell ⟨B, 2, none⟩ x2).cell? ⟨B, 2, none⟩ = some x2) ∧ (∀ x0 x1 x2 x3, ((((W.setCell ⟨B, 0, none⟩ x0).setCell ⟨B, 1, none⟩ x1).setCell ⟨B, 2, none⟩ x2).setCell ⟨B, 3, none⟩ x3).cell? ⟨B, 3, none⟩ = some x3) ∧ (∀ x0 x1 x2 x3 x4, (((((W.setCell ⟨B, 0, none⟩ x0).setCell ⟨B, 1, none⟩ x1).setCell ⟨B, 2, none⟩ x2).setCell ⟨B, 3, none⟩ x3).setCell ⟨B, 4, none⟩ x4).cell? ⟨B, 4, none⟩ = some x4) ∧ (∀ x0 x1 x2 x3 x4 x5, ((((((W.setCell ⟨B, 0, none⟩ x0).setCell ⟨B, 1, none⟩ x1).setCell ⟨B, 2, none⟩ x2).setCell ⟨B, 3, none⟩ x3).setCell ⟨B, 4, none⟩ x4).setCell ⟨B, 5, none⟩ x5).cell? ⟨B, 5, none⟩ = some x5) ∧ (∀ x0 x1 x2 x3 x4 x5 x6, (((((((W.setCell ⟨B, 0, none⟩ x0).setCell ⟨B, 1, none⟩ x1).setCell ⟨B, 2, none⟩ x2).setCell ⟨B, 3, none⟩ x3).setCell ⟨B, 4, none⟩ x4).setCell ⟨B, 5, none⟩ x5).setCell ⟨B, 6, none⟩ x6).cell? ⟨B, 6, none⟩ = some x6) ∧ (∀ x0 x1 x2 x3 x4 x5 x6 x7, ((((((((W.setCell ⟨B, 0, none⟩ x0).setCell ⟨B, 1, none⟩ x1).setCell ⟨B, 2, none⟩ x2).setCell ⟨B, 3, none⟩ x3).setCell ⟨B, 4, none⟩ x4).setCell ⟨B, 5, none⟩ x5).setCell ⟨B, 6, none⟩ x6).setCell ⟨B, 7, none⟩ x7).cell? ⟨B, 7, none⟩ = some x7) := by
  refine ⟨?_, ?_, ?_, ?_, ?_, ?_, ?_, ?_⟩
  · intro x0
    refine World.cell?_setCell_same _ _ _ (u := u0) ?_
    exact k0
  · intro x0 x1
    refine World.cell?_setCell_same _ _ _ (u := u1) ?_
    rw [World.cell?_setCell_other _ _ _ _ (by simp)]
    exact k1
  · intro x0 x1 x2
    refine World.cell?_setCell_same _ _ _ (u := u2) ?_
    rw [World.cell?_setCell_other _ _ _ _ (by simp), World.cell?_setCell_other _ _ _ _ (by simp)]
    exact k2
  · intro x0 x1 x2 x3
    refine World.cell?_setCell_same _ _ _ (u := u3) ?_
    rw [World.cell?_setCell_other _ _ _ _ (by simp), World.cell?_setCell_other _ _ _ _ (by simp), World.cell?_setCell_other _ _ _ _ (by simp)]
    exact k3
  · intro x0 x1 x2 x3 x4
    refine World.cell?_setCell_same _ _ _ (u := u4) ?_
    rw [World.cell?_setCell_other _ _ _ _ (by simp), World.cell?_setCell_other _ _ _ _ (by simp), World.cell?_setCell_other _ _ _ _ (by simp), World.cell?_setCell_other _ _ _ _ (by simp)]
    exact k4
  · intro x0 x1 x2 x3 x4 x5
    refine World.cell?_setCell_same _ _ _ (u := u5) ?_
    rw [World.cell?_setCell_other _ _ _ _ (by simp), World.cell?_setCell_other _ _ _ _ (by simp), World.cell?_setCell_other _ _ _ _ (by simp), World.cell?_setCell_other _ _ _ _ (by simp), World.cell?_setCell_other _ _ _ _ (by simp)]
    exact k5
  · intro x0 x1 x2 x3 x4 x5 x6
    refine World.cell?_setCell_same _ _ _ (u := u6) ?_
    rw [World.cell?_setCell_other _ _ _ _ (by simp), World.cell?_setCell_other _ _ _ _ (by simp), World.cell?_setCell_other _ _ _ _ (by simp), World.cell?_setCell_other _ _ _ _ (by simp), World.cell?_setCell_other _ _ _ _ (by simp), World.cell?_setCell_other _ _ _ _ (by simp)]
    exact k6
  · intro x0 x1 x2 x3 x4 x5 x6 x7
    refine World.cell?_setCell_same _ _ _ (u := u7) ?_
    rw [World.cell?_setCell_other _ _ _ _ (by simp), World.cell?_setCell_other _ _ _ _ (by simp), World.cell?_setCell_other _ _ _ _ (by simp), World.cell?_setCell_other _ _ _ _ (by simp), World.cell?_setCell_other _ _ _ _ (by simp), World.cell?_setCell_other _ _ _ _ (by simp), World.cell?_setCell_other _ _ _ _ (by simp)]
    exact k7
/-- A new block of eight ints. -/
theorem Dr.new8 {w : World} {R : Nat} {a : Option Addr} {m c : Nat} {z : Nat → Int} {Q : Nat} {F : List Sp} {W : World} (h : Dr w R a m c z Q F W) {v0 v1 v2 v3 v4 v5 v6 v7 : Value} {t : TypeId} (i0 : IsI v0) (i1 : IsI v1) (i2 : IsI v2) (i3 : IsI v3) (i4 : IsI v4) (i5 : IsI v5) (i6 : IsI v6) (i7 : IsI v7) : Dr w R a m c z Q (⟨W.heap.size, 0, IsI⟩ :: ⟨W.heap.size, 1, IsI⟩ :: ⟨W.heap.size, 2, IsI⟩ :: ⟨W.heap.size, 3, IsI⟩ :: ⟨W.heap.size, 4, IsI⟩ :: ⟨W.heap.size, 5, IsI⟩ :: ⟨W.heap.size, 6, IsI⟩ :: ⟨W.heap.size, 7, IsI⟩ :: F) (W.alloc (.cells #[v0, v1, v2, v3, v4, v5, v6, v7] t)) := by
  obtain ⟨p, hp, hr⟩ := h.rd
  have hR := hr.size
  have hs := h.grown.size
  refine ⟨⟨p, hp, hr.kept (World.grownBy_alloc _ _ none) (by simp)⟩, grown_trans h.grown (World.grownBy_alloc _ _ _), ?_⟩
  refine Fs.cons (by show W.heap.size ≠ R; omega) hs (by show W.heap.size < _; simp) (by simp [go_sem]) (v := v0) (by simp [go_sem]) i0 ?_
  refine Fs.cons (by show W.heap.size ≠ R; omega) hs (by show W.heap.size < _; simp) (by simp [go_sem]) (v := v1) (by simp [go_sem]) i1 ?_
  refine Fs.cons (by show W.heap.size ≠ R; omega) hs (by show W.heap.size < _; simp) (by simp [go_sem]) (v := v2) (by simp [go_sem]) i2 ?_
  refine Fs.cons (by show W.heap.size ≠ R; omega) hs (by show W.heap.size < _; simp) (by simp [go_sem]) (v := v3) (by simp [go_sem]) i3 ?_
  refine Fs.cons (by show W.heap.size ≠ R; omega) hs (by show W.heap.size < _; simp) (by simp [go_sem]) (v := v4) (by simp [go_sem]) i4 ?_
  refine Fs.cons (by show W.heap.size ≠ R; omega) hs (by show W.heap.size < _; simp) (by simp [go_sem]) (v := v5) (by simp [go_sem]) i5 ?_
  refine Fs.cons (by show W.heap.size ≠ R; omega) hs (by show W.heap.size < _; simp) (by simp [go_sem]) (v := v6) (by simp [go_sem]) i6 ?_
  refine Fs.cons (by show W.heap.size ≠ R; omega) hs (by show W.heap.size < _; simp) (by simp [go_sem]) (v := v7) (by simp [go_sem]) i7 ?_
  exact h.fs.alloc _
/-- The first so many blocks keep their cells, but for the reader's and one that is stored into. -/
def Kp (R B : Nat) (_ : Nat) (W W' : World) : Prop := W.heap.size ≤ W'.heap.size ∧ ∀ b o, b < W.heap.size → b ≠ R → b ≠ B → W'.cell? ⟨b, o, none⟩ = W.cell? ⟨b, o, none⟩
theorem Kp.refl (R B i : Nat) (W : World) : Kp R B i W W := ⟨Nat.le_refl _, fun _ _ _ _ _ => rfl⟩
theorem Kp.of {R B i : Nat} {W W' : World} (g : W.grownBy W' (some R)) : Kp R B i W W' := ⟨g.size, fun b o h h1 _ => (gcell g).1 b o h h1⟩
theorem Kp.set8 {R B i : Nat} {W : World} {v0 v1 v2 v3 v4 v5 v6 v7 : Value} : Kp R B i W ((((((((W.setCell ⟨B, 0, none⟩ v0).setCell ⟨B, 1, none⟩ v1).setCell ⟨B, 2, none⟩ v2).setCell ⟨B, 3, none⟩ v3).setCell ⟨B, 4, none⟩ v4).setCell ⟨B, 5, none⟩ v5).setCell ⟨B, 6, none⟩ v6).setCell ⟨B, 7, none⟩ v7) := by
  refine ⟨by simp [World.setCell], fun b o _ _ hb => ?_⟩
  have n : ∀ j, (⟨B, j, none⟩ : Addr) ≠ ⟨b, o, none⟩ := fun j e => hb (by injection e with e; exact e.symm)
  rw [World.cell?_setCell_other _ _ _ _ (by first | exact n _ | exact (n _).symm), World.cell?_setCell_other _ _ _ _ (by first | exact n _ | exact (n _).symm), World.cell?_setCell_other _ _ _ _ (by first | exact n _ | exact (n _).symm), World.cell?_setCell_other _ _ _ _ (by first | exact n _ | exact (n _).symm), World.cell?_setCell_other _ _ _ _ (by first | exact n _ | exact (n _).symm), World.cell?_setCell_other _ _ _ _ (by first | exact n _ | exact (n _).symm), World.cell?_setCell_other _ _ _ _ (by first | exact n _ | exact (n _).symm), World.cell?_setCell_other _ _ _ _ (by first | exact n _ | exact (n _).symm)]
/-- A table of ints that the region made. -/
def TabN (R B n : Nat) (v : Value) (W : World) : Prop := ∃ g, v = .slice (some ⟨g, 0, none⟩) n n ∧ g < W.heap.size ∧ g ≠ R ∧ g ≠ B ∧ ∀ k, k < n → ∃ x, W.cell? ⟨g, k, none⟩ = some (.int .i64 x) ∧ I64 x
def Spt (R B : Nat) (v : Value) (W : World) : Prop := ∃ g k, v = .pointer (some ⟨g, k, none⟩) ∧ g < W.heap.size ∧ g ≠ R ∧ g ≠ B ∧ ∃ x, W.cell? ⟨g, k, none⟩ = some (.int .i64 x) ∧ I64 x
theorem TabN.next {R B n i : Nat} {v : Value} {W W' : World} (h : TabN R B n v W) (k : Kp R B i W W') : TabN R B n v W' := by
  obtain ⟨g, e, h1, h2, h3, h4⟩ := h
  refine ⟨g, e, Nat.lt_of_lt_of_le h1 k.1, h2, h3, fun j hj => ?_⟩
  obtain ⟨x, c, hx⟩ := h4 j hj
  exact ⟨x, (k.2 g j h1 h2 h3).trans c, hx⟩
theorem Spt.next {R B i : Nat} {v : Value} {W W' : World} (h : Spt R B v W) (k : Kp R B i W W') : Spt R B v W' := by
  obtain ⟨g, j, e, h1, h2, h3, x, c, hx⟩ := h
  exact ⟨g, j, e, Nat.lt_of_lt_of_le h1 k.1, h2, h3, x, (k.2 g j h1 h2 h3).trans c, hx⟩
theorem tabN_of {R B n : Nat} {W : World} {cs : Array Value} {t : TypeId} (hR : R < W.heap.size) (hB : B < W.heap.size) (hs : cs.size = n) (hall : cs.toList.all (inTab (-9223372036854775808) 9223372036854775807) = true) : TabN R B n (.slice (some ⟨W.heap.size, 0, none⟩) n n) (W.alloc (.cells cs t)) := by
  refine ⟨W.heap.size, rfl, by simp, by omega, by omega, fun k hk => ?_⟩
  obtain ⟨x, e, h1, h2⟩ := inTab_int (all_of hall k (by omega))
  exact ⟨x, by rw [cell_new W cs t k (by omega), e], h1, h2⟩
/-- A number below n. -/
def Nt (n : Int) (v : Value) : Prop := ∃ k : Int, 0 ≤ k ∧ k < n ∧ v = .int .i64 k
theorem DS.alloc {w : World} {R : Nat} {a : Option Addr} {m c : Nat} {z : Nat → Int} {Q K n : Nat} {F : List Sp} {L : Nat → Bool} {W : World} (h : DS w R a m c z Q K n F L W) {i : Nat} (hL : L i = false) (hi : i < n) (o : Obj) : DS w R a m c z Q K n F (upd L i true) (W.alloc o) := (h.below ((Below.refl _ _).alloc (Nat.le_refl _) o)).pure hL hi
theorem DS.set8 {w : World} {R : Nat} {a : Option Addr} {m c : Nat} {z : Nat → Int} {Q K n : Nat} {F : List Sp} {L : Nat → Bool} {W : World} (h : DS w R a m c z Q K n F L W) {i : Nat} (hL : L i = false) (hi : i < n) (ho : Old w a m) {B : Nat} (hB : B ≠ R) (hw : w.heap.size ≤ B) (hv : ∀ v, IsI v → ∀ f ∈ F, f.b = B → f.P v) {v0 v1 v2 v3 v4 v5 v6 v7 : Value} (i0 : IsI v0) (i1 : IsI v1) (i2 : IsI v2) (i3 : IsI v3) (i4 : IsI v4) (i5 : IsI v5) (i6 : IsI v6) (i7 : IsI v7) : DS w R a m c z Q K n F (upd L i true) ((((((((W.setCell ⟨B, 0, none⟩ v0).setCell ⟨B, 1, none⟩ v1).setCell ⟨B, 2, none⟩ v2).setCell ⟨B, 3, none⟩ v3).setCell ⟨B, 4, none⟩ v4).setCell ⟨B, 5, none⟩ v5).setCell ⟨B, 6, none⟩ v6).setCell ⟨B, 7, none⟩ v7) := (show DS w R a m c z Q K n F L _ from Dr.set8 h ho hB hw hv i0 i1 i2 i3 i4 i5 i6 i7).pure hL hi
/-- Some step was drawn. -/
def DIns (R : Nat) (a : Option Addr) (m c : Nat) (z : Nat → Int) (p : Nat) (w : World) (e : Ending) (w' : World) : Prop := ∃ (v : Value) (p' : Nat), IsIns v ∧ e = .returned v ∧ p' ≤ p + 80 ∧ Rd w' R a m c z p' ∧ w.grownBy w' (some R)
end Go.Proofs.Ytiehokibfdaleaa
