/- Runs marked, and the marks looked for again; a run that a call answered: held against another one, marked, looked for. -/
import Derived.Test.YtndedplmcjfgeaaPens
import Derived.Test.YtndedplmcjfgeaaRunTo2
import Derived.Test.YtndedplmcjfgeaaHeld8
import Derived.Test.YtndedplmcjfgeaaRunEq
namespace Go.Proofs.Ytndedplmcjfgeaa
open Go.ChangeShapes Go.WideShapes Go.ChangeAt Go.RowKit

/-- The cells of a list of calls that are marked, one behind the other: procedure, place, four variables, four cells. -/
def adF (g : Nat) (S : Nat → FSpot) (j : Nat) : Addr :=
  if j % 10 = 0 then ⟨g, j / 10 * 4, none⟩ else if j % 10 = 1 then ⟨g, j / 10 * 4 + 1, none⟩ else if j % 10 < 6 then ⟨(S (j / 10)).v.b, j % 10 - 2, none⟩ else ⟨(S (j / 10)).c.b, j % 10 - 6, none⟩
theorem adF_0 (g : Nat) (S : Nat → FSpot) (q : Nat) : adF g S (10 * q) = ⟨g, q * 4, none⟩ := by
  unfold adF
  rw [if_pos (by omega), show 10 * q / 10 = q by omega]
theorem adF_1 (g : Nat) (S : Nat → FSpot) (q : Nat) : adF g S (10 * q + 1) = ⟨g, q * 4 + 1, none⟩ := by
  unfold adF
  rw [if_neg (by omega), if_pos (by omega), show (10 * q + 1) / 10 = q by omega]
theorem adF_v (g : Nat) (S : Nat → FSpot) (q j : Nat) (h : j < 4) : adF g S (10 * q + 2 + j) = ⟨(S q).v.b, j, none⟩ := by
  unfold adF
  rw [if_neg (by omega), if_neg (by omega), if_pos (by omega), show (10 * q + 2 + j) / 10 = q by omega, show (10 * q + 2 + j) % 10 - 2 = j by omega]
theorem adF_c (g : Nat) (S : Nat → FSpot) (q j : Nat) (h : j < 4) : adF g S (10 * q + 6 + j) = ⟨(S q).c.b, j, none⟩ := by
  unfold adF
  rw [if_neg (by omega), if_neg (by omega), if_neg (by omega), show (10 * q + 6 + j) / 10 = q by omega, show (10 * q + 6 + j) % 10 - 6 = j by omega]
theorem ten_cases (i : Nat) : (∃ q, i = 10 * q) ∨ (∃ q, i = 10 * q + 1) ∨ (∃ q j, j < 4 ∧ i = 10 * q + 2 + j) ∨ (∃ q j, j < 4 ∧ i = 10 * q + 6 + j) := by
  rcases (show i % 10 = 0 ∨ i % 10 = 1 ∨ (2 ≤ i % 10 ∧ i % 10 < 6) ∨ 6 ≤ i % 10 by omega) with h | h | h | h
  · exact .inl ⟨i / 10, by omega⟩
  · exact .inr (.inl ⟨i / 10, by omega⟩)
  · exact .inr (.inr (.inl ⟨i / 10, i % 10 - 2, by omega, by omega⟩))
  · exact .inr (.inr (.inr ⟨i / 10, i % 10 - 6, by omega, by omega⟩))
/-- The calls' lists are in memory of their own, at or behind B. -/
structure FOwn (B g m : Nat) (S : Nat → FSpot) (W : World) : Prop where
  lo : B ≤ g ∧ g < W.heap.size
  free : ∀ i, W.frozen? ⟨g, i, none⟩ = false
  v : ∀ i, i < m → B ≤ (S i).v.b ∧ (S i).v.b < W.heap.size ∧ ∀ j, W.frozen? ⟨(S i).v.b, j, none⟩ = false
  c : ∀ i, i < m → B ≤ (S i).c.b ∧ (S i).c.b < W.heap.size ∧ ∀ j, W.frozen? ⟨(S i).c.b, j, none⟩ = false
  ne : ∀ i, i < m → (S i).v.b ≠ g ∧ (S i).c.b ≠ g
  vc : ∀ i k, i < m → k < m → (S i).v.b ≠ (S k).c.b
  vi : ∀ i k, i < m → k < m → (S i).v.b = (S k).v.b → i = k
  ci : ∀ i k, i < m → k < m → (S i).c.b = (S k).c.b → i = k
theorem FOwn.next {B g m : Nat} {S : Nat → FSpot} {W W' : World} (h : FOwn B g m S W) (hb : Below W.heap.size W W') : FOwn B g m S W' :=
  ⟨⟨h.lo.1, Nat.lt_of_lt_of_le h.lo.2 hb.size⟩, fun i => (hb.frozen (p := ⟨g, i, none⟩) h.lo.2).trans (h.free i), fun i hi => ⟨(h.v i hi).1, Nat.lt_of_lt_of_le (h.v i hi).2.1 hb.size, fun j => (hb.frozen (p := ⟨(S i).v.b, j, none⟩) (h.v i hi).2.1).trans ((h.v i hi).2.2 j)⟩, fun i hi => ⟨(h.c i hi).1, Nat.lt_of_lt_of_le (h.c i hi).2.1 hb.size, fun j => (hb.frozen (p := ⟨(S i).c.b, j, none⟩) (h.c i hi).2.1).trans ((h.c i hi).2.2 j)⟩, h.ne, h.vc, h.vi, h.ci⟩
/-- Where the calls' lists are said to lie. -/
structure FHead (g m : Nat) (S : Nat → FSpot) (W : World) : Prop where
  v : ∀ i, i < m → W.cell? ⟨g, i * 4 + 2, none⟩ = some (.slice (some ⟨(S i).v.b, 0, none⟩) 4 4)
  c : ∀ i, i < m → W.cell? ⟨g, i * 4 + 3, none⟩ = some (.slice (some ⟨(S i).c.b, 0, none⟩) 4 4)
theorem adF_inj {B g m : Nat} {S : Nat → FSpot} {W : World} (h : FOwn B g m S W) : ∀ i j, i < 10 * m → j < 10 * m → adF g S i = adF g S j → i = j := by
  intro i j hi hj e
  rcases ten_cases i with ⟨q, rfl⟩ | ⟨q, rfl⟩ | ⟨q, r, hr, rfl⟩ | ⟨q, r, hr, rfl⟩ <;> rcases ten_cases j with ⟨q', rfl⟩ | ⟨q', rfl⟩ | ⟨q', r', hr', rfl⟩ | ⟨q', r', hr', rfl⟩ <;>
    simp (disch := omega) only [adF_0, adF_1, adF_v, adF_c, Addr.mk.injEq, and_true, true_and] at e
  · omega
  · omega
  · exact absurd e.1.symm (h.ne q' (by omega)).1
  · exact absurd e.1.symm (h.ne q' (by omega)).2
  · omega
  · omega
  · exact absurd e.1.symm (h.ne q' (by omega)).1
  · exact absurd e.1.symm (h.ne q' (by omega)).2
  · exact absurd e.1 (h.ne q (by omega)).1
  · exact absurd e.1 (h.ne q (by omega)).1
  · have := h.vi q q' (by omega) (by omega) e.1; omega
  · exact absurd e.1 (h.vc q q' (by omega) (by omega))
  · exact absurd e.1 (h.ne q (by omega)).2
  · exact absurd e.1 (h.ne q (by omega)).2
  · exact absurd e.1.symm (h.vc q' q (by omega) (by omega))
  · have := h.ci q q' (by omega) (by omega) e.1; omega
theorem FramesAt.head {g m : Nat} {F : Nat → Frm} {S : Nat → FSpot} {W : World} (h : FramesAt (some ⟨g, 0, none⟩) g 0 m F S W) (hc : FCopy S F m) (h4 : ∀ i, i < m → (F i).nv = 4 ∧ (F i).nc = 4) : FHead g m S W := by
  refine ⟨fun i hi => ?_, fun i hi => ?_⟩
  · have e := h.vars i hi
    rw [Nat.zero_add, hc i hi] at e
    rw [e, (h4 i hi).1]
  · have e := h.cells i hi
    rw [Nat.zero_add, hc i hi] at e
    rw [e, (h4 i hi).2]
theorem FramesAt.pen {B g m : Nat} {F : Nat → Frm} {S : Nat → FSpot} {W : World} (h : FramesAt (some ⟨g, 0, none⟩) g 0 m F S W) (hc : FCopy S F m) (h4 : ∀ i, i < m → (F i).nv = 4 ∧ (F i).nc = 4) (ho : FOwn B g m S W) : Pen (adF g S) (10 * m) B W := by
  refine ⟨adF_inj ho, fun i hi => ?_, fun i hi => ?_, fun i hi => ?_⟩
  · rcases ten_cases i with ⟨q, rfl⟩ | ⟨q, rfl⟩ | ⟨q, r, hr, rfl⟩ | ⟨q, r, hr, rfl⟩ <;> simp (disch := omega) only [adF_0, adF_1, adF_v, adF_c]
    · exact ho.lo
    · exact ho.lo
    · exact ⟨(ho.v q (by omega)).1, (ho.v q (by omega)).2.1⟩
    · exact ⟨(ho.c q (by omega)).1, (ho.c q (by omega)).2.1⟩
  · rcases ten_cases i with ⟨q, rfl⟩ | ⟨q, rfl⟩ | ⟨q, r, hr, rfl⟩ | ⟨q, r, hr, rfl⟩ <;> simp (disch := omega) only [adF_0, adF_1, adF_v, adF_c]
    · have e := h.proc q (by omega); rw [Nat.zero_add] at e; rw [e]; rfl
    · have e := h.pc q (by omega); rw [Nat.zero_add] at e; rw [e]; rfl
    · have e := (h.vs q (by omega)).cell r (by rw [(h4 q (by omega)).1]; exact hr)
      have ho' : (S q).v.off = 0 := by rw [hc q (by omega)]
      rw [ho', Nat.zero_add] at e; rw [e]; rfl
    · have e := (h.cs q (by omega)).cell r (by rw [(h4 q (by omega)).2]; exact hr)
      have ho' : (S q).c.off = 0 := by rw [hc q (by omega)]
      rw [ho', Nat.zero_add] at e; rw [e]; rfl
  · rcases ten_cases i with ⟨q, rfl⟩ | ⟨q, rfl⟩ | ⟨q, r, hr, rfl⟩ | ⟨q, r, hr, rfl⟩ <;> simp (disch := omega) only [adF_0, adF_1, adF_v, adF_c]
    · exact ho.free _
    · exact ho.free _
    · exact (ho.v q (by omega)).2.2 _
    · exact (ho.c q (by omega)).2.2 _
theorem adF_head {g m : Nat} {S : Nat → FSpot} (hne : ∀ i, i < m → (S i).v.b ≠ g ∧ (S i).c.b ≠ g) {i d : Nat} (hd : d = 2 ∨ d = 3) : ∀ j, j < 10 * m → (⟨g, i * 4 + d, none⟩ : Addr) ≠ adF g S j := by
  intro j hj e
  rcases ten_cases j with ⟨q, rfl⟩ | ⟨q, rfl⟩ | ⟨q, r, hr, rfl⟩ | ⟨q, r, hr, rfl⟩ <;> simp (disch := omega) only [adF_0, adF_1, adF_v, adF_c, Addr.mk.injEq, and_true, true_and] at e
  · omega
  · omega
  · exact (hne q (by omega)).1 e.1.symm
  · exact (hne q (by omega)).2 e.1.symm
theorem FHead.wrote {B g m : Nat} {S : Nat → FSpot} {W W' : World} (h : FHead g m S W) (hg : g < W.heap.size) (hne : ∀ i, i < m → (S i).v.b ≠ g ∧ (S i).c.b ≠ g) (k : Wrote (adF g S) (10 * m) B W W') : FHead g m S W' :=
  ⟨fun i hi => (k.other _ hg (adF_head hne (.inl rfl))).trans (h.v i hi), fun i hi => (k.other _ hg (adF_head hne (.inr rfl))).trans (h.c i hi)⟩
theorem FHead.below {g m : Nat} {S : Nat → FSpot} {W W' : World} (h : FHead g m S W) (hg : g < W.heap.size) (k : Below W.heap.size W W') : FHead g m S W' :=
  ⟨fun i hi => (k.cell (p := ⟨g, i * 4 + 2, none⟩) hg).trans (h.v i hi), fun i hi => (k.cell (p := ⟨g, i * 4 + 3, none⟩) hg).trans (h.c i hi)⟩

set_option maxRecDepth 10000 in
set_option maxHeartbeats 4000000 in
theorem markFrms (B g m cap : Nat) (a : Option Addr) (S : Nat → FSpot) (w : World) (hm : m ≤ 1000) (hat : 0 < m → a = some ⟨g, 0, none⟩) (hg' : 0 < m → g < w.heap.size) (hne : ∀ i, i < m → (S i).v.b ≠ g ∧ (S i).c.b ≠ g) (hP : Pen (adF g S) (10 * m) B w) (hH : FHead g m S w) :
    Calls Try.prog 59 #[.slice a m cap, .int .i64 1] w fun e w' => e = .returned (.int .i64 (10 * (m : Int) + 1)) ∧ Mk (adF g S) (10 * m) w' ∧ Wrote (adF g S) (10 * m) B w w' := by
  go_enter Try.func59, Try.ntmps59
  go_wp2
  go_loopw [1, 5] (fun q i wr => ∃ k : Nat, k ≤ m ∧ i = .int .i64 k ∧ q = .int .i64 (10 * (k : Int) + 1) ∧ Mk (adF g S) (10 * k) wr ∧ Wrote (adF g S) (10 * m) B w wr) (fun _ i _ => m - (intOf i).toNat)
  case atStart => exact ⟨0, Nat.zero_le _, rfl, by simp, fun j hj => by omega, Wrote.refl _ _ _ _⟩
  case round =>
    obtain ⟨k, hk, rfl, rfl, hM, hW⟩ := hrel
    by_cases hlt : k < m
    · have hg := hg' (by omega)
      have e1 := hat (by omega)
      have hP' := hP.next hW
      have hH' := hH.wrote hg hne hW
      have hgr : g < wr.heap.size := Nat.lt_of_lt_of_le hg hW.size
      have c2 := hH'.v k hlt
      obtain ⟨u0, z0⟩ := Option.isSome_iff_exists.1 (hP'.there (10 * k) (by omega))
      obtain ⟨u1, z1⟩ := Option.isSome_iff_exists.1 (hP'.there (10 * k + 1) (by omega))
      have f0 := hP'.free (10 * k) (by omega)
      have f1 := hP'.free (10 * k + 1) (by omega)
      rw [adF_0] at z0 f0
      rw [adF_1] at z1 f1
      obtain ⟨x, hx⟩ : ∃ x, x = 10 * (k : Int) + 1 := ⟨_, rfl⟩
      have W1 := Wrote.one hP' (n := 10 * k) (by omega) (adF_0 g S k) (.int .i64 x)
      have M1 := hM.one hP' (by omega) (adF_0 g S k) (v := .int .i64 x) (by rw [hx]; push_cast; rfl)
      have P1 := hP'.next W1
      have W2 := Wrote.one P1 (n := 10 * k + 1) (by omega) (adF_1 g S k) (.int .i64 (x + 1))
      have M2 := M1.one P1 (by omega) (adF_1 g S k) (v := .int .i64 (x + 1)) (by rw [hx]; push_cast; rfl)
      have P2 := P1.next W2
      have W12 := (hW.trans W1).trans W2
      have hxS : Hid (x = 10 * (k : Int) + 1) := hx
      have hx0 : 0 ≤ x := by omega
      have hx9 : x ≤ 10010 := by omega
      have k2 : x + 1 + 1 = ((10 * k + 2 : Nat) : Int) + 1 := by omega
      have k2S : Hid (x + 1 + 1 = ((10 * k + 2 : Nat) : Int) + 1) := k2
      have t1 : ((k : Int)).toNat = k := by omega
      have t2 : (0 : Int) ≤ (k : Int) := by omega
      have t3 : (k : Int) < (m : Int) := by omega
      rw [← hx]
      have H2 : Hid (FHead g m S w) := hH
      subst e1
      clear hM hP hP' hH hH' M1 P1 W1 W2 hx k2 hat
      have M2S : Hid (Mk (adF g S) (10 * k + 1 + 1) ((wr.setCell ⟨g, k * 4, none⟩ (.int .i64 x)).setCell ⟨g, k * 4 + 1, none⟩ (.int .i64 (x + 1)))) := M2
      have P2S : Hid (Pen (adF g S) (10 * m) B ((wr.setCell ⟨g, k * 4, none⟩ (.int .i64 x)).setCell ⟨g, k * 4 + 1, none⟩ (.int .i64 (x + 1)))) := P2
      clear M2 P2
      go_wp2_with fail
      refine (markIntsP (adF g S) (10 * m) B (10 * k + 2) 4 _ _ _ _ _ k2S.out (by omega) (by omega) (fun _ => rfl) (fun j hj => adF_v g S k j hj) P2S.out M2S.out).mono ?_
      rintro e w1 ⟨rfl, M3, P3, W3⟩
      have W13 := W12.trans W3
      have c3 := (H2.out.wrote hg hne W13).c k hlt
      have k3 : ((10 * k + 2 : Nat) : Int) + ((4 : Nat) : Int) + 1 = ((10 * k + 6 : Nat) : Int) + 1 := by omega
      rw [k3]
      obtain ⟨y, hy⟩ : ∃ y : Int, y = ((10 * k + 6 : Nat) : Int) + 1 := ⟨_, rfl⟩
      have hyS : Hid (y = ((10 * k + 6 : Nat) : Int) + 1) := hy
      rw [← hy]
      clear hy k3 W12 W3 c2 z0 z1 f0 f1 M2S P2S
      go_wp2_with fail
      refine (markIntsP (adF g S) (10 * m) B (10 * k + 6) 4 _ _ _ _ _ hyS.out (by omega) (by omega) (fun _ => rfl) (fun j hj => adF_c g S k j hj) P3 (show Mk (adF g S) (10 * k + 6) w1 from M3)).mono ?_
      rintro e w2 ⟨rfl, M4, P4, W4⟩
      have W14 := W13.trans W4
      have k4 : ((10 * k + 6 : Nat) : Int) + ((4 : Nat) : Int) + 1 = 10 * ((k + 1 : Nat) : Int) + 1 := by omega
      rw [k4]
      clear k4
      go_wp2_with fail
      go_roundw
      case rel => exact ⟨k + 1, by omega, by go_num, rfl, M4, W14⟩
      case measure => simp [intOf]; omega
    · obtain rfl : k = m := by omega
      clear hP hH hat
      go_wp2_with fail
      go_ret
      exact ⟨rfl, hM, hW⟩

set_option maxRecDepth 10000 in
set_option maxHeartbeats 4000000 in
theorem heldFrms (g m cap : Nat) (a : Option Addr) (S : Nat → FSpot) (w : World) (hm : m ≤ 1000) (hat : 0 < m → a = some ⟨g, 0, none⟩) (hH : FHead g m S w) (hM : Mk (adF g S) (10 * m) w) (hg' : 0 < m → g < w.heap.size) (hl : ∀ j, j < 10 * m → (adF g S j).block < w.heap.size) :
    Calls Try.prog 60 #[.slice a m cap, .int .i64 1] w fun e w' => e = .returned (.int .i64 (10 * (m : Int) + 1)) ∧ Below w.heap.size w w' := by
  go_enter Try.func60, Try.ntmps60
  go_wp2
  go_loopw [1, 5] (fun q i wr => ∃ k : Nat, k ≤ m ∧ i = .int .i64 k ∧ q = .int .i64 (10 * (k : Int) + 1) ∧ Below w.heap.size w wr) (fun _ i _ => m - (intOf i).toNat)
  case atStart => exact ⟨0, Nat.zero_le _, rfl, by simp, Below.refl _ _⟩
  case round =>
    obtain ⟨k, hk, rfl, rfl, hB⟩ := hrel
    by_cases hlt : k < m
    · have hg := hg' (by omega)
      have e1 := hat (by omega)
      have H1 := hH.below hg hB
      have M1 : Mk (adF g S) (10 * m) wr := fun j hj => (hB.cell (hl j hj)).trans (hM j hj)
      have c2 := H1.v k hlt
      have c3 := H1.c k hlt
      have z0 := M1 (10 * k) (by omega)
      have z1 := M1 (10 * k + 1) (by omega)
      rw [adF_0] at z0
      rw [adF_1] at z1
      have hgr : g < wr.heap.size := Nat.lt_of_lt_of_le hg hB.size
      obtain ⟨x, hx⟩ : ∃ x, x = 10 * (k : Int) + 1 := ⟨_, rfl⟩
      have q0 : ((10 * k : Nat) : Int) + 1 = x := by omega
      have q1 : ((10 * k + 1 : Nat) : Int) + 1 = x + 1 := by omega
      rw [q0] at z0
      rw [q1] at z1
      have hx0 : 0 ≤ x := by omega
      have hx9 : x ≤ 10010 := by omega
      have k2S : Hid (x + 1 + 1 = ((10 * k + 2 : Nat) : Int) + 1) := by show x + 1 + 1 = ((10 * k + 2 : Nat) : Int) + 1; omega
      have t1 : ((k : Int)).toNat = k := by omega
      have t2 : (0 : Int) ≤ (k : Int) := by omega
      have t3 : (k : Int) < (m : Int) := by omega
      rw [← hx]
      subst e1
      clear hx q0 q1 H1 hH hM hat
      go_wp2_with fail
      refine (heldIntsP (adF g S) (10 * m) (10 * k + 2) 4 _ _ _ _ _ k2S.out (by omega) (by omega) (fun _ => rfl) (fun j hj => adF_v g S k j hj) M1).mono ?_
      rintro e w1 ⟨rfl, hb⟩
      have c3' := ((bcell hb).1 g _ hgr).trans c3
      have M2 : Mk (adF g S) (10 * m) w1 := fun j hj => (hb.cell (Nat.lt_of_lt_of_le (hl j hj) hB.size)).trans (M1 j hj)
      have hB2 := below_tr hB hb
      have k3 : ((10 * k + 2 : Nat) : Int) + ((4 : Nat) : Int) + 1 = ((10 * k + 6 : Nat) : Int) + 1 := by omega
      rw [k3]
      obtain ⟨y, hy⟩ : ∃ y : Int, y = ((10 * k + 6 : Nat) : Int) + 1 := ⟨_, rfl⟩
      have hyS : Hid (y = ((10 * k + 6 : Nat) : Int) + 1) := hy
      have hy0 : ¬ y < 0 := by omega
      rw [← hy]
      clear hy k3 c2 z0 z1 M1 hB hb c3
      go_wp2_with fail
      refine (heldIntsP (adF g S) (10 * m) (10 * k + 6) 4 _ _ _ _ _ hyS.out (by omega) (by omega) (fun _ => rfl) (fun j hj => adF_c g S k j hj) M2).mono ?_
      rintro e w2 ⟨rfl, hb⟩
      have hB3 := below_tr hB2 hb
      have k4 : ((10 * k + 6 : Nat) : Int) + ((4 : Nat) : Int) + 1 = 10 * ((k + 1 : Nat) : Int) + 1 := by omega
      rw [k4]
      obtain ⟨v, hv⟩ : ∃ v : Int, v = 10 * ((k + 1 : Nat) : Int) + 1 := ⟨_, rfl⟩
      have hvS : Hid (v = 10 * ((k + 1 : Nat) : Int) + 1) := hv
      have hv0 : ¬ v < 0 := by omega
      rw [← hv]
      clear hv k4 M2 hB2 hb c3'
      go_wp2_with fail
      go_roundw
      case rel => exact ⟨k + 1, by omega, by go_num, by rw [hvS.out], hB3⟩
      case measure => simp [intOf]; omega
    · obtain rfl : k = m := by omega
      clear hH hM hat
      go_wp2_with fail
      go_ret
      exact ⟨rfl, hB⟩

theorem markRunP (st out pr pc : Int) (B g m cap : Nat) (a : Option Addr) (S : Nat → FSpot) (w : World) (hm : m ≤ 1000) (hB : B ≤ w.heap.size) (hat : 0 < m → a = some ⟨g, 0, none⟩) (hg' : 0 < m → g < w.heap.size) (hne : ∀ i, i < m → (S i).v.b ≠ g ∧ (S i).c.b ≠ g) (hP : Pen (adF g S) (10 * m) B w) (hH : FHead g m S w) :
    Calls Try.prog 30 #[.agg #[.int .i64 st, .slice a m cap, .int .i64 out, .int .i64 pr, .int .i64 pc], .int .i64 1] w fun e w' => e = .returned (.int .i64 (10 * (m : Int) + 1)) ∧ Mk (adF g S) (10 * m) w' ∧ Wrote (adF g S) (10 * m) B w w' := by
  have b0 : Below w.heap.size w (w.alloc (.cells #[.int .i64 st, .slice a m cap, .int .i64 out, .int .i64 pr, .int .i64 pc] 47)) := (Below.refl _ _).alloc (Nat.le_refl _) _
  have P0 := hP.below b0
  have H0 : FHead g m S (w.alloc (.cells #[.int .i64 st, .slice a m cap, .int .i64 out, .int .i64 pr, .int .i64 pc] 47)) := ⟨fun i hi => ((hH.below (hg' (by omega)) b0).v i hi), fun i hi => ((hH.below (hg' (by omega)) b0).c i hi)⟩
  have hg0 : 0 < m → g < (w.alloc (.cells #[.int .i64 st, .slice a m cap, .int .i64 out, .int .i64 pr, .int .i64 pc] 47)).heap.size := fun h => Nat.lt_of_lt_of_le (hg' h) b0.size
  clear hP hH
  go_enter Try.func30, Try.ntmps30
  go_wp2_with fail
  refine (markFrms _ _ _ _ _ _ _ hm hat hg0 hne P0 H0).mono ?_
  rintro e w1 ⟨rfl, hM, hW⟩
  clear P0 H0
  go_wp2_with fail
  go_ret
  exact ⟨rfl, hM, (Wrote.ofBelow b0 hB).trans hW⟩
theorem heldRunP (st out pr pc : Int) (g m cap : Nat) (a : Option Addr) (S : Nat → FSpot) (w : World) (hm : m ≤ 1000) (hat : 0 < m → a = some ⟨g, 0, none⟩) (hH : FHead g m S w) (hM : Mk (adF g S) (10 * m) w) (hg' : 0 < m → g < w.heap.size) (hl : ∀ j, j < 10 * m → (adF g S j).block < w.heap.size) :
    Calls Try.prog 31 #[.agg #[.int .i64 st, .slice a m cap, .int .i64 out, .int .i64 pr, .int .i64 pc], .int .i64 1] w fun e w' => e = .returned (.int .i64 (10 * (m : Int) + 1)) ∧ Below w.heap.size w w' := by
  have b0 : Below w.heap.size w (w.alloc (.cells #[.int .i64 st, .slice a m cap, .int .i64 out, .int .i64 pr, .int .i64 pc] 47)) := (Below.refl _ _).alloc (Nat.le_refl _) _
  have H0 : FHead g m S (w.alloc (.cells #[.int .i64 st, .slice a m cap, .int .i64 out, .int .i64 pr, .int .i64 pc] 47)) := ⟨fun i hi => ((hH.below (hg' (by omega)) b0).v i hi), fun i hi => ((hH.below (hg' (by omega)) b0).c i hi)⟩
  have M0 : Mk (adF g S) (10 * m) (w.alloc (.cells #[.int .i64 st, .slice a m cap, .int .i64 out, .int .i64 pr, .int .i64 pc] 47)) := fun j hj => (b0.cell (hl j hj)).trans (hM j hj)
  have hg0 : 0 < m → g < (w.alloc (.cells #[.int .i64 st, .slice a m cap, .int .i64 out, .int .i64 pr, .int .i64 pc] 47)).heap.size := fun h => Nat.lt_of_lt_of_le (hg' h) b0.size
  have hv : ¬ 10 * (m : Int) + 1 < 0 := by omega
  go_enter Try.func31, Try.ntmps31
  go_wp2_with fail
  refine (heldFrms _ _ _ _ _ _ hm hat H0 M0 hg0 (fun j hj => Nat.lt_of_lt_of_le (hl j hj) b0.size)).mono ?_
  rintro e w1 ⟨rfl, hb⟩
  have b1 := below_tr b0 hb
  clear H0 M0 hH hM
  go_wp2_with fail
  go_ret
  exact ⟨rfl, b1⟩

/-- v is that run; its calls' lists are in memory of their own, at or behind B. -/
def RunIs (B : Nat) (st out pr pc : Int) (q : Nat) (F : Nat → Frm) (v : Value) (W : World) : Prop :=
  ∃ a g S, v = .agg #[.int .i64 st, .slice a q q, .int .i64 out, .int .i64 pr, .int .i64 pc] ∧ (0 < q → a = some ⟨g, 0, none⟩ ∧ FramesAt (some ⟨g, 0, none⟩) g 0 q F S W ∧ FOwn B g q S W) ∧ FCopy S F q
theorem RunIs.next {B : Nat} {st out pr pc : Int} {q : Nat} {F : Nat → Frm} {v : Value} {W W' : World} (h : RunIs B st out pr pc q F v W) (hb : Below W.heap.size W W') : RunIs B st out pr pc q F v W' := by
  obtain ⟨a, g, S, e, h1, h2⟩ := h
  exact ⟨a, g, S, e, fun hq => ⟨(h1 hq).1, (h1 hq).2.1.next hb, (h1 hq).2.2.next hb⟩, h2⟩
theorem RunIs.base {B C : Nat} {st out pr pc : Int} {q : Nat} {F : Nat → Frm} {v : Value} {W : World} (h : RunIs B st out pr pc q F v W) (hC : C ≤ B) : RunIs C st out pr pc q F v W := by
  obtain ⟨a, g, S, e, h1, h2⟩ := h
  refine ⟨a, g, S, e, fun hq => ⟨(h1 hq).1, (h1 hq).2.1, ?_⟩, h2⟩
  obtain ⟨k1, k2, k3, k4, k5, k6, k7, k8⟩ := (h1 hq).2.2
  exact ⟨⟨Nat.le_trans hC k1.1, k1.2⟩, k2, fun i hi => ⟨Nat.le_trans hC (k3 i hi).1, (k3 i hi).2⟩, fun i hi => ⟨Nat.le_trans hC (k4 i hi).1, (k4 i hi).2⟩, k5, k6, k7, k8⟩
theorem IntsAt.turns {T : Nat → Prop} {a : Option Addr} {b off n : Nat} {z : Nat → Int} {W W' : World} (h : IntsAt a b off n z W) (t : Turns T W W') (hT : 0 < n → ¬ T b) : IntsAt a b off n z W' :=
  ⟨h.at_, fun hn => Nat.lt_of_lt_of_le (h.lt hn) t.size, fun k hk => (t.cell (p := ⟨b, off + k, none⟩) (h.lt (by omega)) (hT (by omega))).trans (h.cell k hk)⟩
theorem RunIs.turns {T : Nat → Prop} {B : Nat} {st out pr pc : Int} {q : Nat} {F : Nat → Frm} {v : Value} {W W' : World} (h : RunIs B st out pr pc q F v W) (t : Turns T W W') (hT : ∀ b, B ≤ b → ¬ T b) : RunIs B st out pr pc q F v W' := by
  obtain ⟨a, g, S, e, h1, h2⟩ := h
  refine ⟨a, g, S, e, fun hq => ⟨(h1 hq).1, ?_, ?_⟩, h2⟩
  · have h := (h1 hq).2.1
    have o := (h1 hq).2.2
    have k : ∀ o', W'.cell? ⟨g, o', none⟩ = W.cell? ⟨g, o', none⟩ := fun o' => t.cell (p := ⟨g, o', none⟩) o.lo.2 (hT g o.lo.1)
    exact ⟨h.at_, fun hm => Nat.lt_of_lt_of_le (h.lt hm) t.size, fun i hi => (k _).trans (h.proc i hi), fun i hi => (k _).trans (h.pc i hi), fun i hi => (k _).trans (h.vars i hi), fun i hi => (k _).trans (h.cells i hi), fun i hi => (h.vs i hi).turns t (fun _ => hT _ (o.v i hi).1), fun i hi => (h.cs i hi).turns t (fun _ => hT _ (o.c i hi).1)⟩
  · have h := (h1 hq).2.2
    exact ⟨⟨h.lo.1, Nat.lt_of_lt_of_le h.lo.2 t.size⟩, fun i => (t.free ⟨g, i, none⟩ h.lo.2).trans (h.free i), fun i hi => ⟨(h.v i hi).1, Nat.lt_of_lt_of_le (h.v i hi).2.1 t.size, fun j => (t.free ⟨(S i).v.b, j, none⟩ (h.v i hi).2.1).trans ((h.v i hi).2.2 j)⟩, fun i hi => ⟨(h.c i hi).1, Nat.lt_of_lt_of_le (h.c i hi).2.1 t.size, fun j => (t.free ⟨(S i).c.b, j, none⟩ (h.c i hi).2.1).trans ((h.c i hi).2.2 j)⟩, h.ne, h.vc, h.vi, h.ci⟩

set_option maxHeartbeats 2000000 in
theorem eqFrms0 (a a' : Option Addr) (c c' : Nat) (w : World) :
    Calls Try.prog 54 #[.slice a 0 c, .slice a' 0 c'] w fun e w' => e = .returned (.bool true) ∧ Below w.heap.size w w' := by
  go_enter Try.func54, Try.ntmps54
  go_wp2
  go_loopw [5] (fun i wr => i = .int .i64 0 ∧ Below w.heap.size w wr) (fun i _ => 0 - (intOf i).toNat)
  case atStart => exact ⟨rfl, Below.refl _ _⟩
  case round =>
    obtain ⟨rfl, hB⟩ := hrel
    go_wp2
    go_ret
    exact ⟨rfl, hB⟩
theorem eqRun0 (st out pr pc : Int) (a a' : Option Addr) (c c' : Nat) (w : World) :
    Calls Try.prog 24 #[.agg #[.int .i64 st, .slice a 0 c, .int .i64 out, .int .i64 pr, .int .i64 pc], .agg #[.int .i64 st, .slice a' 0 c', .int .i64 out, .int .i64 pr, .int .i64 pc]] w fun e w' => e = .returned (.bool true) ∧ Below w.heap.size w w' := by
  have H0 : HeldL w [(w.heap.size + 1, [Value.int .i64 st, .slice a' 0 c', .int .i64 out, .int .i64 pr, .int .i64 pc]), (w.heap.size, [Value.int .i64 st, .slice a 0 c, .int .i64 out, .int .i64 pr, .int .i64 pc])] ((w.alloc (.cells #[.int .i64 st, .slice a 0 c, .int .i64 out, .int .i64 pr, .int .i64 pc] 47)).alloc (.cells #[.int .i64 st, .slice a' 0 c', .int .i64 out, .int .i64 pr, .int .i64 pc] 47)) := by
    have e1 : w.heap.size + 1 = (w.alloc (.cells #[.int .i64 st, .slice a 0 c, .int .i64 out, .int .i64 pr, .int .i64 pc] 47)).heap.size := by simp
    rw [e1]
    exact HeldL.newL (vs := [Value.int .i64 st, .slice a' 0 c', .int .i64 out, .int .i64 pr, .int .i64 pc]) (HeldL.newL (vs := [Value.int .i64 st, .slice a 0 c, .int .i64 out, .int .i64 pr, .int .i64 pc]) (HeldL.nil w))
  go_enter Try.func24, Try.ntmps24
  go_wp2_with fail
  refine (eqFrms0 _ _ _ _ _).mono ?_
  rintro e w1 ⟨rfl, hb⟩
  have H1 := H0.next hb
  have x2 := H1.cell List.mem_cons_self (i := 2) rfl
  have x3 := H1.cell List.mem_cons_self (i := 3) rfl
  have x4 := H1.cell List.mem_cons_self (i := 4) rfl
  have y2 := H1.cell (List.mem_cons_of_mem _ List.mem_cons_self) (i := 2) rfl
  have y3 := H1.cell (List.mem_cons_of_mem _ List.mem_cons_self) (i := 3) rfl
  have y4 := H1.cell (List.mem_cons_of_mem _ List.mem_cons_self) (i := 4) rfl
  dsimp only at x2 x3 x4 y2 y3 y4
  clear H0 hb
  go_wp2_with fail
  go_ret
  exact ⟨rfl, H1.below⟩
theorem eqRunG {B C : Nat} {st out pr pc : Int} {q : Nat} {F : Nat → Frm} {v v' : Value} (w : World) (hq : q ≤ 1000) (h4 : ∀ i, i < q → (F i).nv = 4 ∧ (F i).nc = 4) (h : RunIs B st out pr pc q F v w) (h' : RunIs C st out pr pc q F v' w) :
    Calls Try.prog 24 #[v, v'] w fun e w' => e = .returned (.bool true) ∧ Below w.heap.size w w' := by
  obtain ⟨a, g, S, rfl, h1, h2⟩ := h
  obtain ⟨a', g', S', rfl, h1', h2'⟩ := h'
  by_cases h0 : q = 0
  · subst h0
    exact eqRun0 _ _ _ _ _ _ _ _ _
  · obtain ⟨rfl, k1, _⟩ := h1 (by omega)
    obtain ⟨rfl, k1', _⟩ := h1' (by omega)
    exact eqRun _ _ _ _ _ _ _ _ _ _ _ (by omega) (fun i hi => by have := h4 i hi; omega) k1 k1' h2 h2'
/-- v is a run that was marked; the marks lie at or behind B. -/
def RunMk (B : Nat) (st out pr pc : Int) (q : Nat) (v : Value) (W : World) : Prop :=
  ∃ a g S, v = .agg #[.int .i64 st, .slice a q q, .int .i64 out, .int .i64 pr, .int .i64 pc] ∧ (0 < q → a = some ⟨g, 0, none⟩ ∧ g < W.heap.size) ∧ FHead g q S W ∧ Mk (adF g S) (10 * q) W ∧ (∀ j, j < 10 * q → B ≤ (adF g S j).block ∧ (adF g S j).block < W.heap.size)
theorem RunMk.next {B : Nat} {st out pr pc : Int} {q : Nat} {v : Value} {W W' : World} (h : RunMk B st out pr pc q v W) (hb : Below W.heap.size W W') : RunMk B st out pr pc q v W' := by
  obtain ⟨a, g, S, e, h1, h2, h3, h4⟩ := h
  exact ⟨a, g, S, e, fun hq => ⟨(h1 hq).1, Nat.lt_of_lt_of_le (h1 hq).2 hb.size⟩, ⟨fun i hi => (hb.cell (p := ⟨g, i * 4 + 2, none⟩) (h1 (by omega)).2).trans (h2.v i hi), fun i hi => (hb.cell (p := ⟨g, i * 4 + 3, none⟩) (h1 (by omega)).2).trans (h2.c i hi)⟩, fun j hj => (hb.cell (h4 j hj).2).trans (h3 j hj), fun j hj => ⟨(h4 j hj).1, Nat.lt_of_lt_of_le (h4 j hj).2 hb.size⟩⟩
/-- As RunIs; and the lists lie ahead of N. -/
def RunIn (B N : Nat) (st out pr pc : Int) (q : Nat) (F : Nat → Frm) (v : Value) (W : World) : Prop :=
  ∃ a g S, v = .agg #[.int .i64 st, .slice a q q, .int .i64 out, .int .i64 pr, .int .i64 pc] ∧ (0 < q → a = some ⟨g, 0, none⟩ ∧ FramesAt (some ⟨g, 0, none⟩) g 0 q F S W ∧ FOwn B g q S W) ∧ FCopy S F q ∧ (0 < q → g < N) ∧ ∀ i, i < q → (S i).v.b < N ∧ (S i).c.b < N
theorem RunIs.bound {B : Nat} {st out pr pc : Int} {q : Nat} {F : Nat → Frm} {v : Value} {W : World} (h : RunIs B st out pr pc q F v W) : RunIn B W.heap.size st out pr pc q F v W := by
  obtain ⟨a, g, S, e, h1, h2⟩ := h
  exact ⟨a, g, S, e, h1, h2, fun hq => (h1 hq).2.2.lo.2, fun i hi => ⟨((h1 (by omega)).2.2.v i hi).2.1, ((h1 (by omega)).2.2.c i hi).2.1⟩⟩
theorem RunIn.is {B N : Nat} {st out pr pc : Int} {q : Nat} {F : Nat → Frm} {v : Value} {W : World} (h : RunIn B N st out pr pc q F v W) : RunIs B st out pr pc q F v W := by
  obtain ⟨a, g, S, e, h1, h2, _⟩ := h
  exact ⟨a, g, S, e, h1, h2⟩
theorem RunIn.next {B N : Nat} {st out pr pc : Int} {q : Nat} {F : Nat → Frm} {v : Value} {W W' : World} (h : RunIn B N st out pr pc q F v W) (hb : Below W.heap.size W W') : RunIn B N st out pr pc q F v W' := by
  obtain ⟨a, g, S, e, h1, h2, h3⟩ := h
  exact ⟨a, g, S, e, fun hq => ⟨(h1 hq).1, (h1 hq).2.1.next hb, (h1 hq).2.2.next hb⟩, h2, h3⟩
theorem FramesAt.turns {T : Nat → Prop} {B g q : Nat} {F : Nat → Frm} {S : Nat → FSpot} {W W' : World} (h : FramesAt (some ⟨g, 0, none⟩) g 0 q F S W) (o : FOwn B g q S W) (t : Turns T W W') (hT : ∀ b, B ≤ b → ¬ T b) : FramesAt (some ⟨g, 0, none⟩) g 0 q F S W' ∧ FOwn B g q S W' := by
  have k : ∀ o', W'.cell? ⟨g, o', none⟩ = W.cell? ⟨g, o', none⟩ := fun o' => t.cell (p := ⟨g, o', none⟩) o.lo.2 (hT g o.lo.1)
  refine ⟨⟨h.at_, fun hm => Nat.lt_of_lt_of_le (h.lt hm) t.size, fun i hi => (k _).trans (h.proc i hi), fun i hi => (k _).trans (h.pc i hi), fun i hi => (k _).trans (h.vars i hi), fun i hi => (k _).trans (h.cells i hi), fun i hi => (h.vs i hi).turns t (fun _ => hT _ (o.v i hi).1), fun i hi => (h.cs i hi).turns t (fun _ => hT _ (o.c i hi).1)⟩, ?_⟩
  exact ⟨⟨o.lo.1, Nat.lt_of_lt_of_le o.lo.2 t.size⟩, fun i => (t.free ⟨g, i, none⟩ o.lo.2).trans (o.free i), fun i hi => ⟨(o.v i hi).1, Nat.lt_of_lt_of_le (o.v i hi).2.1 t.size, fun j => (t.free ⟨(S i).v.b, j, none⟩ (o.v i hi).2.1).trans ((o.v i hi).2.2 j)⟩, fun i hi => ⟨(o.c i hi).1, Nat.lt_of_lt_of_le (o.c i hi).2.1 t.size, fun j => (t.free ⟨(S i).c.b, j, none⟩ (o.c i hi).2.1).trans ((o.c i hi).2.2 j)⟩, o.ne, o.vc, o.vi, o.ci⟩
theorem RunIn.turns {T : Nat → Prop} {B N : Nat} {st out pr pc : Int} {q : Nat} {F : Nat → Frm} {v : Value} {W W' : World} (h : RunIn B N st out pr pc q F v W) (t : Turns T W W') (hT : ∀ b, B ≤ b → ¬ T b) : RunIn B N st out pr pc q F v W' := by
  obtain ⟨a, g, S, e, h1, h2, h3⟩ := h
  exact ⟨a, g, S, e, fun hq => ⟨(h1 hq).1, (h1 hq).2.1.turns (h1 hq).2.2 t hT⟩, h2, h3⟩
theorem markRunG {B N : Nat} {st out pr pc : Int} {q : Nat} {F : Nat → Frm} {v : Value} (w : World) (hq : q ≤ 1000) (hB : B ≤ w.heap.size) (h4 : ∀ i, i < q → (F i).nv = 4 ∧ (F i).nc = 4) (h : RunIn B N st out pr pc q F v w) :
    Calls Try.prog 30 #[v, .int .i64 1] w fun e w' => e = .returned (.int .i64 (10 * (q : Int) + 1)) ∧ RunMk B st out pr pc q v w' ∧ Below B w w' ∧ ∀ p, N ≤ p.block → p.block < w.heap.size → w'.cell? p = w.cell? p := by
  obtain ⟨a, g, S, rfl, h1, h2, hgN, hSN⟩ := h
  have hP : Pen (adF g S) (10 * q) B w := by
    by_cases h0 : q = 0
    · subst h0
      exact ⟨fun i j hi => by omega, fun i hi => by omega, fun i hi => by omega, fun i hi => by omega⟩
    · exact (h1 (by omega)).2.1.pen h2 h4 (h1 (by omega)).2.2
  have hH : FHead g q S w := by
    by_cases h0 : q = 0
    · subst h0
      exact ⟨fun i hi => by omega, fun i hi => by omega⟩
    · exact (h1 (by omega)).2.1.head h2 h4
  have hg : 0 < q → g < w.heap.size := fun hq => (h1 hq).2.2.lo.2
  have hne : ∀ i, i < q → (S i).v.b ≠ g ∧ (S i).c.b ≠ g := fun i hi => (h1 (by omega)).2.2.ne i hi
  have hlt : ∀ j, j < 10 * q → (adF g S j).block < N := by
    intro j hj
    rcases ten_cases j with ⟨k, rfl⟩ | ⟨k, rfl⟩ | ⟨k, r, hr, rfl⟩ | ⟨k, r, hr, rfl⟩ <;> simp (disch := omega) only [adF_0, adF_1, adF_v, adF_c]
    · exact hgN (by omega)
    · exact hgN (by omega)
    · exact (hSN k (by omega)).1
    · exact (hSN k (by omega)).2
  refine (markRunP st out pr pc B g q q a S w hq hB (fun h => (h1 h).1) hg hne hP hH).mono ?_
  rintro e w1 ⟨rfl, hM, hW⟩
  refine ⟨rfl, ⟨a, g, S, rfl, fun h => ⟨(h1 h).1, Nat.lt_of_lt_of_le (hg h) hW.size⟩, ?_, hM, fun j hj => ⟨(hP.lo j hj).1, Nat.lt_of_lt_of_le (hP.lo j hj).2 hW.size⟩⟩, hW.below, fun p hp1 hp2 => hW.other p hp2 (fun j hj e => ?_)⟩
  · exact ⟨fun i hi => (hH.wrote (hg (by omega)) hne hW).v i hi, fun i hi => (hH.wrote (hg (by omega)) hne hW).c i hi⟩
  · have := hlt j hj
    subst e
    omega
theorem heldRunG {B : Nat} {st out pr pc : Int} {q : Nat} {v : Value} (w : World) (hq : q ≤ 1000) (h : RunMk B st out pr pc q v w) :
    Calls Try.prog 31 #[v, .int .i64 1] w fun e w' => e = .returned (.int .i64 (10 * (q : Int) + 1)) ∧ Below w.heap.size w w' := by
  obtain ⟨a, g, S, rfl, h1, h2, h3, h4⟩ := h
  exact heldRunP st out pr pc g q q a S w hq (fun h => (h1 h).1) h2 h3 (fun h => (h1 h).2) (fun j hj => (h4 j hj).2)
/-- A block's first cells. -/
def Box (B : Nat) (vs : List Value) (W : World) : Prop := B < W.heap.size ∧ ∀ i v, vs[i]? = some v → W.cell? ⟨B, i, none⟩ = some v
theorem Box.next {B : Nat} {vs : List Value} {W W' : World} (h : Box B vs W) (hb : Below W.heap.size W W') : Box B vs W' := ⟨Nat.lt_of_lt_of_le h.1 hb.size, fun i v hv => (hb.cell (p := ⟨B, i, none⟩) h.1).trans (h.2 i v hv)⟩
theorem Box.nextB {B C : Nat} {vs : List Value} {W W' : World} (h : Box B vs W) (hb : Below C W W') (hC : B < C) : Box B vs W' := ⟨Nat.lt_of_lt_of_le h.1 hb.size, fun i v hv => (hb.cell (p := ⟨B, i, none⟩) hC).trans (h.2 i v hv)⟩
theorem Box.turns {T : Nat → Prop} {B : Nat} {vs : List Value} {W W' : World} (h : Box B vs W) (t : Turns T W W') (hT : ¬ T B) : Box B vs W' := ⟨Nat.lt_of_lt_of_le h.1 t.size, fun i v hv => (t.cell (p := ⟨B, i, none⟩) h.1 hT).trans (h.2 i v hv)⟩
theorem Box.other {B N : Nat} {vs : List Value} {W W' : World} (h : Box B vs W) (hs : W.heap.size ≤ W'.heap.size) (ho : ∀ p : Addr, N ≤ p.block → p.block < W.heap.size → W'.cell? p = W.cell? p) (hN : N ≤ B) : Box B vs W' := ⟨Nat.lt_of_lt_of_le h.1 hs, fun i v hv => (ho ⟨B, i, none⟩ hN h.1).trans (h.2 i v hv)⟩
theorem Box.new (W : World) (vs : List Value) (t : TypeId) : Box W.heap.size vs (W.alloc (.cells vs.toArray t)) := ⟨by simp, fun i v hv => by
  unfold World.cell?
  rw [heap_alloc_new]
  simpa using hv⟩
end Go.Proofs.Ytndedplmcjfgeaa
