/- Runs in memory: a list of calls, each with two lists of ints. What the laws count of them. -/
import Derived.Test.YtndedplmcjfgeaaPrg
import Derived.Test.YtndedplmcjfgeaaHeld8
import Derived.WalkKit
import Derived.ProofKit
import Derived.OpenShut
import Derived.Below
namespace Go.Proofs.Ytndedplmcjfgeaa
open Go.ChangeShapes Go.WideShapes Go.ChangeAt Go.RowKit

/-- A call: procedure, place, variables, cells. -/
structure Frm where
  proc : Int
  pc : Int
  nv : Nat
  v : Nat → Int
  nc : Nat
  c : Nat → Int
/-- Where a call's two lists lie. -/
structure FSpot where
  v : Spot
  c : Spot
/-- n ints lie at a, in block b from off on. -/
structure IntsAt (a : Option Addr) (b off n : Nat) (z : Nat → Int) (W : World) : Prop where
  at_ : 0 < n → a = some ⟨b, off, none⟩
  lt : 0 < n → b < W.heap.size
  cell : ∀ k, k < n → W.cell? ⟨b, off + k, none⟩ = some (.int .i64 (z k))
theorem IntsAt.next {a : Option Addr} {b off n : Nat} {z : Nat → Int} {W W' : World} (h : IntsAt a b off n z W) (hb : Below W.heap.size W W') : IntsAt a b off n z W' :=
  ⟨h.at_, fun hn => Nat.lt_of_lt_of_le (h.lt hn) hb.size, fun k hk => (hb.cell (p := ⟨b, off + k, none⟩) (h.lt (by omega))).trans (h.cell k hk)⟩
/-- m calls lie at a, in block b from off on. -/
structure FramesAt (a : Option Addr) (b off m : Nat) (F : Nat → Frm) (S : Nat → FSpot) (W : World) : Prop where
  at_ : 0 < m → a = some ⟨b, off, none⟩
  lt : 0 < m → b < W.heap.size
  proc : ∀ i, i < m → W.cell? ⟨b, off + i * 4, none⟩ = some (.int .i64 (F i).proc)
  pc : ∀ i, i < m → W.cell? ⟨b, off + i * 4 + 1, none⟩ = some (.int .i64 (F i).pc)
  vars : ∀ i, i < m → W.cell? ⟨b, off + i * 4 + 2, none⟩ = some (.slice (S i).v.a (F i).nv (S i).v.cap)
  cells : ∀ i, i < m → W.cell? ⟨b, off + i * 4 + 3, none⟩ = some (.slice (S i).c.a (F i).nc (S i).c.cap)
  vs : ∀ i, i < m → IntsAt (S i).v.a (S i).v.b (S i).v.off (F i).nv (F i).v W
  cs : ∀ i, i < m → IntsAt (S i).c.a (S i).c.b (S i).c.off (F i).nc (F i).c W
theorem FramesAt.next {a : Option Addr} {b off m : Nat} {F : Nat → Frm} {S : Nat → FSpot} {W W' : World} (h : FramesAt a b off m F S W) (hb : Below W.heap.size W W') : FramesAt a b off m F S W' :=
  have k : ∀ o, 0 < m → W'.cell? ⟨b, o, none⟩ = W.cell? ⟨b, o, none⟩ := fun o hm => hb.cell (p := ⟨b, o, none⟩) (h.lt hm)
  ⟨h.at_, fun hm => Nat.lt_of_lt_of_le (h.lt hm) hb.size, fun i hi => (k _ (by omega)).trans (h.proc i hi), fun i hi => (k _ (by omega)).trans (h.pc i hi), fun i hi => (k _ (by omega)).trans (h.vars i hi), fun i hi => (k _ (by omega)).trans (h.cells i hi), fun i hi => (h.vs i hi).next hb, fun i hi => (h.cs i hi).next hb⟩
/-- A cell of a held block turned. -/
theorem HeldL.putI {w W : World} {L : List (Nat × List Value)} {B i : Nat} {vs : List Value} {x : Value} (hB : w.heap.size ≤ B) (hne : ∀ e ∈ L, e.1 ≠ B) (h : HeldL w ((B, vs) :: L) W) (hi : i < vs.length) : HeldL w ((B, vs.set i x) :: L) (W.setCell ⟨B, i, none⟩ x) := by
  have m := List.mem_cons_self (a := (B, vs)) (l := L)
  have hh := (h.sub (L' := L) (fun e he => List.mem_cons_of_mem _ he)).setCell ⟨B, i, none⟩ x hB hne
  refine ⟨hh.below, fun e he => ?_, fun e he j => ?_⟩
  · rcases List.mem_cons.1 he with rfl | he
    · refine ⟨hB, by simpa [World.setCell] using h.size m, fun j v hv => ?_⟩
      by_cases hj : i = j
      · subst hj
        rw [List.getElem?_set_self hi] at hv
        injection hv with hv
        subst hv
        exact World.cell?_setCell_same _ _ _ (h.cell m (List.getElem?_eq_getElem hi))
      · rw [List.getElem?_set_ne hj] at hv
        rw [World.cell?_setCell_other _ _ _ _ (by intro e; injection e with _ e; exact hj (by first | exact e | exact e.symm))]
        exact h.cell m hv
    · exact hh.cells e he
  · rcases List.mem_cons.1 he with rfl | he
    · rw [World.frozen?_setCell]; exact h.free _ m j
    · exact hh.free e he j
theorem szInts (a : Option Addr) (n cap : Nat) (left : Int) (w : World) (hl : 0 ≤ left ∧ left ≤ 1048576) (hn : n ≤ maxLen) :
    Calls Try.prog 88 #[.slice a n cap, .int .i64 left] w fun e w' => ∃ r : Int, e = .returned (.int .i64 r) ∧ (r = -1 ∨ (r = left - n ∧ 0 ≤ r)) ∧ Below w.heap.size w w' := by
  have hw : IntKind.i64.wrap (left - (n : Int)) = left - n := by
    have : maxLen ≤ 9223372036854775807 := by decide
    simp [IntKind.wrap, IntKind.signed, IntKind.bits]; omega
  go_enter Try.func88, Try.ntmps88
  go_wp2
  all_goals go_ret
  · exact ⟨_, rfl, .inl rfl, Below.refl _ _⟩
  · exact ⟨_, rfl, .inr ⟨rfl, by omega⟩, Below.refl _ _⟩
theorem szFrm (proc pc : Int) (a : Option Addr) (n cap : Nat) (a' : Option Addr) (n' cap' : Nat) (left : Int) (w : World) (hl : 0 ≤ left ∧ left ≤ 1048576) (hn : n ≤ maxLen) (hn' : n' ≤ maxLen) :
    Calls Try.prog 73 #[.agg #[.int .i64 proc, .int .i64 pc, .slice a n cap, .slice a' n' cap'], .int .i64 left] w fun e w' => ∃ r : Int, e = .returned (.int .i64 r) ∧ (r = -1 ∨ (r = left - n - n' ∧ 0 ≤ r)) ∧ Below w.heap.size w w' := by
  have H0 : HeldL w [(w.heap.size, [Value.int .i64 proc, .int .i64 pc, .slice a n cap, .slice a' n' cap'])] (w.alloc (.cells #[.int .i64 proc, .int .i64 pc, .slice a n cap, .slice a' n' cap'] 97)) := HeldL.newL (vs := [Value.int .i64 proc, .int .i64 pc, .slice a n cap, .slice a' n' cap']) (HeldL.nil w)
  go_enter Try.func73, Try.ntmps73
  go_wp2_with fail
  refine (szInts _ _ _ _ _ hl hn).mono ?_
  rintro e w1 ⟨r, rfl, hr, hb⟩
  have H1 := H0.next hb
  clear H0
  rcases hr with rfl | ⟨hr, h0⟩
  · go_wp2
    go_ret
    exact ⟨_, rfl, .inl rfl, H1.below⟩
  have c3 := H1.cell List.mem_cons_self (i := 3) rfl
  dsimp only at c3
  have hrS : Hid (r = left - n) := hr
  have hr9 : r ≤ 1048576 := by omega
  have hr8 : ¬ r < 0 := by omega
  clear hr
  go_wp2_with fail
  refine (szInts _ _ _ _ _ ⟨h0, hr9⟩ hn').mono ?_
  rintro e w2 ⟨q, rfl, hq, hb2⟩
  have H2 := H1.next hb2
  clear H1 c3
  rcases hq with rfl | ⟨hq, h0'⟩
  · go_wp2
    go_ret
    exact ⟨_, rfl, .inl rfl, H2.below⟩
  · have hq8 : ¬ q < 0 := by omega
    have hqS : Hid (q = r - n') := hq
    clear hq
    go_wp2
    go_ret
    exact ⟨_, rfl, .inr ⟨by have := hrS.out; have := hqS.out; omega, by omega⟩, H2.below⟩
/-- What the first calls have in all. -/
def frmTo (F : Nat → Frm) : Nat → Nat
  | 0 => 0
  | i + 1 => frmTo F i + ((F i).nv + (F i).nc)
theorem frmTo_le {F : Nat → Frm} {i m : Nat} (h : i < m) : (F i).nv ≤ frmTo F m ∧ (F i).nc ≤ frmTo F m := by
  induction m with
  | zero => omega
  | succ m ih =>
    rcases (show i < m ∨ i = m by omega) with h' | rfl
    · have := ih h'
      simp only [frmTo]; omega
    · simp only [frmTo]; omega
set_option maxHeartbeats 2000000 in
theorem szFrms (a : Option Addr) (b off m cap : Nat) (F : Nat → Frm) (S : Nat → FSpot) (left : Int) (w : World) (hl : 0 ≤ left ∧ left ≤ 1048576) (hm : m ≤ maxLen) (hP : FramesAt a b off m F S w) (hn : ∀ i, i < m → (F i).nv ≤ maxLen ∧ (F i).nc ≤ maxLen) :
    Calls Try.prog 45 #[.slice a m cap, .int .i64 left] w fun e w' => ∃ r : Int, e = .returned (.int .i64 r) ∧ (r = -1 ∨ (r = left - m - frmTo F m ∧ 0 ≤ r)) ∧ Below w.heap.size w w' := by
  have hw : IntKind.i64.wrap (left - (m : Int)) = left - m := by
    have : maxLen ≤ 9223372036854775807 := by decide
    simp [IntKind.wrap, IntKind.signed, IntKind.bits]; omega
  go_enter Try.func45, Try.ntmps45
  go_wp2
  · go_ret
    exact ⟨_, rfl, .inl rfl, Below.refl _ _⟩
  have hge : 0 ≤ left - (m : Int) := by first | assumption | omega
  go_loopw [1, 5] (fun q i wr => ∃ (k : Nat) (r : Int), k ≤ m ∧ i = .int .i64 k ∧ q = .int .i64 r ∧ r = left - m - frmTo F k ∧ 0 ≤ r ∧ Below w.heap.size w wr) (fun _ i _ => m - (intOf i).toNat)
  case atStart => exact ⟨0, _, Nat.zero_le _, rfl, rfl, by simp [frmTo], hge, Below.refl _ _⟩
  case round =>
    obtain ⟨k, r, hk, rfl, rfl, hr, hr0, hB⟩ := hrel
    by_cases hlt : k < m
    · have hP' := hP.next hB
      have e1 := hP'.at_ (by omega)
      have c0 := hP'.proc k hlt
      have c1 := hP'.pc k hlt
      have c2 := hP'.vars k hlt
      have c3 := hP'.cells k hlt
      have hn' := hn k hlt
      have E : Hid (frmTo F (k + 1) = frmTo F k + ((F k).nv + (F k).nc)) := rfl
      have hrS : Hid (r = left - m - frmTo F k) := hr
      have t1 : ((k : Int)).toNat = k := by omega
      have t2 : (0 : Int) ≤ (k : Int) := by omega
      have t3 : (k : Int) < (m : Int) := by omega
      have hr1 : r ≤ 1048576 := by omega
      subst e1
      clear hP hP' hn hr
      generalize (F k).proc = lo at c0
      generalize (F k).pc = hi at c1
      generalize hx : (F k).nv = x at c2 hn' E
      generalize hy : (F k).nc = y at c3 hn' E
      clear hx hy
      generalize S k = s at c2 c3
      go_wp2_with fail
      refine (szFrm _ _ _ _ _ _ _ _ _ _ ⟨hr0, hr1⟩ hn'.1 hn'.2).mono ?_
      rintro e w1 ⟨q, rfl, hq, hb⟩
      have hB1 := below_tr hB hb
      rcases hq with rfl | ⟨hq, h0⟩
      · go_wp2_with fail
        go_ret
        exact ⟨_, rfl, .inl rfl, hB1⟩
      · have hqS : Hid (q = r - x - y) := hq
        have hq0 : ¬ q < 0 := by omega
        clear hq c0 c1 c2 c3
        go_wp2_with fail
        go_roundw
        case rel => exact ⟨k + 1, q, by omega, by go_num, rfl, by have := hqS.out; have := hrS.out; have := E.out; omega, h0, hB1⟩
        case measure => simp [intOf]; omega
    · obtain rfl : k = m := by omega
      clear hP
      go_wp2_with fail
      go_ret
      exact ⟨_, rfl, .inr ⟨by first | exact hr | rfl, by omega⟩, hB⟩
theorem szRun (st out pr pc : Int) (a : Option Addr) (b off m cap : Nat) (F : Nat → Frm) (S : Nat → FSpot) (left : Int) (w : World) (hl : 0 ≤ left ∧ left ≤ 1048576) (hm : m ≤ maxLen) (hP : FramesAt a b off m F S w) (hn : ∀ i, i < m → (F i).nv ≤ maxLen ∧ (F i).nc ≤ maxLen) :
    Calls Try.prog 20 #[.agg #[.int .i64 st, .slice a m cap, .int .i64 out, .int .i64 pr, .int .i64 pc], .int .i64 left] w fun e w' => ∃ r : Int, e = .returned (.int .i64 r) ∧ (r = -1 ∨ (r = left - m - frmTo F m ∧ 0 ≤ r)) ∧ Below w.heap.size w w' := by
  have b0 := (Below.refl w.heap.size w).alloc (Nat.le_refl _) (.cells #[.int .i64 st, .slice a m cap, .int .i64 out, .int .i64 pr, .int .i64 pc] 42)
  have hP0 := hP.next b0
  clear hP
  go_enter Try.func20, Try.ntmps20
  go_wp2_with fail
  refine (szFrms _ _ _ _ _ _ _ _ _ hl hm hP0 hn).mono ?_
  rintro e w1 ⟨r, rfl, hr, hb⟩
  have b1 := below_tr b0 hb
  clear hP0 hn
  rcases hr with rfl | ⟨hr, h0⟩
  · go_wp2
    go_ret
    exact ⟨_, rfl, .inl rfl, b1⟩
  · have hr8 : ¬ r < 0 := by omega
    have hrS : Hid (r = left - m - frmTo F m) := hr
    clear hr
    go_wp2
    go_ret
    exact ⟨_, rfl, .inr ⟨hrS.out, h0⟩, b1⟩
end Go.Proofs.Ytndedplmcjfgeaa
