/- What the drawing of a list of numbers answers over a reader; what the drawing of inputs answers. -/
import Derived.Test.YtiehokibfdaleaaDrawSt
import Derived.Test.YtiehokibfdaleaaOwn
namespace Go.Proofs.Ytiehokibfdaleaa
open Go.ChangeShapes Go.WideShapes Go.ChangeAt Go.RowKit

def Inp (zs : List Int) : Prop := ∀ x ∈ zs, -32768 ≤ x ∧ x ≤ 32767
/-- A list of so many numbers lies somewhere of its own, at or behind B. -/
def ListAt (B n : Nat) (v : Value) (W : World) : Prop := ∃ g cap zs, v = .slice (some ⟨g, 0, none⟩) n cap ∧ n ≤ cap ∧ B ≤ g ∧ g < W.heap.size ∧ zs.length = n ∧ Inp zs ∧ ∀ j, j < n → W.cell? ⟨g, j, none⟩ = some (.int .i64 (zs.getD j 0))

theorem infoIntL : (Try.prog.info? 3).map (fun i => (i.zero, i.size, i.bytes)) = some (some (.int .i64 0), 1, 8) := by kernel_rfl
theorem one_cells {W : World} {g : Nat} {x : Value} (h : W.cell? ⟨g, 0, none⟩ = some x) : ∀ j u, ([x] : List Value)[j]? = some u → W.cell? ((⟨g, 0, none⟩ : Addr).add j) = some u := by
  intro j u hj
  cases j with
  | zero =>
    simp at hj
    subst hj
    simpa [Addr.add] using h
  | succ j => simp at hj

theorem Owns.reader {B R : Nat} {e : TypeId} {v : Value} {zs : List Int} {W W' : World} (h : Owns B e v zs W) (hR : R < B) (g : W.grownBy W' (some R)) : Owns B e v zs W' := by
  refine ⟨h.1, ?_⟩
  rcases h.2 with h2 | ⟨b, cap, cur, h1, h2, h3, h4⟩
  · exact .inl h2
  · exact .inr ⟨b, cap, cur, h1, h2, (g.block b (Array.getElem?_eq_some_iff.1 h3).1 (fun e => by injection e; omega)).trans h3, h4⟩
theorem grown_own {a b c : World} {R : Nat} {row : Option Nat} (h : a.grownBy b (some R)) (k : b.grownBy c row) (hr : ∀ j, row = some j → a.heap.size ≤ j) : a.grownBy c (some R) :=
  ⟨k.os.trans h.os, k.tape.trans h.tape, k.output.trans h.output, Nat.le_trans h.size k.size, fun i hi hne => (k.block i (Nat.lt_of_lt_of_le hi h.size) (fun e => by have := hr i e.symm; omega)).trans (h.block i hi hne)⟩
theorem grown_none {w w' : World} (g : w.grownBy w' none) : Below w.heap.size w w' := ⟨g.os, g.tape, g.output, g.size, fun k hk => g.block k hk (by simp)⟩
theorem ListAt.next {B C n : Nat} {v : Value} {W W' : World} (h : ListAt B n v W) (hC : C ≤ B) (hb : Below W.heap.size W W') : ListAt C n v W' := by
  obtain ⟨g, cap, zs, h1, h2, h3, h4, h5, h6, h7⟩ := h
  exact ⟨g, cap, zs, h1, h2, Nat.le_trans hC h3, Nat.lt_of_lt_of_le h4 hb.size, h5, h6, fun j hj => (hb.cell (p := ⟨g, j, none⟩) h4).trans (h7 j hj)⟩

set_option maxRecDepth 10000 in
set_option maxHeartbeats 4000000 in
theorem numsD (R : Nat) (a : Option Addr) (m c : Nat) (z : Nat → Int) (p : Nat) (w : World) (h : Rd w R a m c z p) (hp : p < 700000) :
    Calls Try.prog 33 #[.pointer (some ⟨R, 0, none⟩), .int .i64 12] w fun e w' => ∃ v p', e = .returned v ∧ ListAt w.heap.size 12 v w' ∧ p' ≤ p + 36 ∧ Rd w' R a m c z p' ∧ w.grownBy w' (some R) := by
  obtain ⟨i0, hi, hz0, hz1, hz2⟩ := info_parts infoIntL
  have hRs := h.size
  go_enter Try.func33, Try.ntmps33
  go_wp2_with fail
  have rd0 := h.kept (World.grownBy_alloc w (.cells #[] 3) none) (by simp)
  have own0 : Owns w.heap.size 3 (.slice (some ⟨w.heap.size, 0, none⟩) 0 0) [] (w.alloc (.cells #[] 3)) := by
    refine ⟨rfl, .inr ⟨w.heap.size, 0, #[], rfl, Nat.le_refl _, by show (w.heap.push (.cells #[] 3))[w.heap.size]? = some _; simp, Nat.le_refl _, by simp [maxLen], rfl, rfl⟩⟩
  have gr0 : w.grownBy (w.alloc (.cells #[] 3)) (some R) := World.grownBy_alloc _ _ _
  clear h
  go_loopw [5, 6] (fun v i W => ∃ (k : Nat) (zs : List Int) (p' : Nat), k ≤ 12 ∧ i = .int .i64 k ∧ zs.length = k ∧ Inp zs ∧ Owns w.heap.size 3 v zs W ∧ p' ≤ p + 3 * k ∧ Rd W R a m c z p' ∧ w.grownBy W (some R)) (fun _ i _ => 12 - (intOf i).toNat)
  case atStart => exact ⟨0, [], p, by omega, rfl, rfl, (fun _ h => by cases h), own0, by omega, rd0, gr0⟩
  case round =>
    obtain ⟨k, zs, p1, hk, rfl, hlen, hin, own, hp1, rd, gr⟩ := hrel
    clear rd0 own0 gr0
    by_cases hlt : k < 12
    · have t1 : (k : Int) < 12 := by omega
      go_wp2_with fail
      refine (numS R a m c z p1 _ rd (by omega)).mono ?_
      rintro e w2 ⟨x, p2, hx1, hx2, rfl, hp2, h2, g2⟩
      have hB : w.heap.size ≤ w2.heap.size := Nat.le_trans gr.size g2.size
      have own2 : Owns w.heap.size 3 u5 zs (w2.alloc (.cells #[.int .i64 x] 3)) := (Owns.reader own hRs g2).alloc _
      have hl : zs.length ≤ 12 := by omega
      go_wp2_with (at_builtin; refine wpList_append_own _ rfl (.tmp 13) (.tmp 16) 35 rfl w.heap.size 3 i0 (.int .i64 0) 1 8 Try.underlying35 hi hz0 hz1 hz2 rfl (by decide) _ _ _ rfl own2 ⟨w2.heap.size, 0, none⟩ 1 1 [.int .i64 x] rfl rfl (one_cells (by simp)) (by simp [Value.oneCell']) (by simp [maxLen]; omega) (by omega) (by simp; omega) ?_)
      intro v' w' o' g' n'
      have O' : Owns w.heap.size 3 v' (zs ++ [x]) w' := by unfold Owns; simpa [hlen] using o'
      have ob : ∀ k, u5.ownBlock = some k → w.heap.size ≤ k := fun k hk => (World.ownsRow.lt own2 k hk).1
      have r' : Rd w' R a m c z p2 := (h2.kept (World.grownBy_alloc _ _ none) (by simp)).kept g' (fun k hk => by have := ob k hk; omega)
      have gw' : w.grownBy w' (some R) := grown_own (grown_trans (grown_trans gr g2) (World.grownBy_alloc _ _ _)) g' ob
      have hin' : Inp (zs ++ [x]) := by
        intro y hy
        rcases List.mem_append.1 hy with hy | hy
        · exact hin y hy
        · simp at hy; subst hy; exact ⟨hx1, hx2⟩
      clear o' g' n' own own2 ob h2 g2 rd gr hin
      go_wp2_with fail
      go_roundw
      case rel => exact ⟨k + 1, zs ++ [x], p2, by omega, by go_num, by simp; omega, hin', O', by omega, r', gw'⟩
      case measure => simp [intOf]; omega
    · obtain rfl : k = 12 := by omega
      obtain ⟨g, cap, hv, o1, o2, o3, o4, o5⟩ := own.form (by intro h; rw [h] at hlen; simp at hlen)
      rw [hlen] at o3 o4 hv
      subst hv
      go_wp2_with fail
      go_ret
      exact ⟨_, p1, rfl, ⟨g, cap, zs, rfl, o4, o1, o2, hlen, hin, o3⟩, by omega, rd, gr⟩

set_option maxHeartbeats 2000000 in
theorem drawInputs (a : Option Addr) (len cap : Nat) (z : Nat → Int) (w : World) (hz : ∀ i, 0 ≤ z i ∧ z i ≤ 255) (hl : len ≤ 1048576) (h : Bytes w a len cap z) :
    Calls Try.prog 19 #[.slice a len cap] w fun e w' => ∃ (n : Int) (v : Value), -32768 ≤ n ∧ n ≤ 32767 ∧ e = .returned (.tuple #[.int .i64 n, v]) ∧ ListAt w.heap.size 12 v w' ∧ Below w.heap.size w w' := by
  go_enter Try.func19, Try.ntmps19
  go_wp2_with fail
  refine (openS a len cap z _ hz hl h).mono ?_
  rintro e w1 ⟨m, c, rfl, h1, g1⟩
  go_wp2_with fail
  refine (numS _ a m c z 0 _ h1 (by omega)).mono ?_
  rintro e w2 ⟨n, p2, hn1, hn2, rfl, hp2, h2, g2⟩
  go_wp2_with fail
  refine (numsD _ a m c z p2 _ h2 (by omega)).mono ?_
  rintro e w3 ⟨v, p3, rfl, hv, hp3, h3, g3⟩
  have b3 : Below w.heap.size w w3 := below_at (below_at (grown_none g1) g2 (Nat.le_refl _)) g3 (Nat.le_refl _)
  have s2 : w.heap.size ≤ w2.heap.size := Nat.le_trans g1.size g2.size
  go_wp2_with fail
  exact bodyPost_ret (v := .tuple #[.int .i64 n, v]) (by simp [results, Try.results19, go_sem]) rfl ⟨n, v, hn1, hn2, rfl, hv.next s2 (Below.refl _ _), b3⟩
end Go.Proofs.Ytiehokibfdaleaa
