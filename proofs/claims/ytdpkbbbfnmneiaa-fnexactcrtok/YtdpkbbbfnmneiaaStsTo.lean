/- Papers copied: what the laws' to.. functions make. Each list lies in memory of its own. -/
import Derived.Test.YtdpkbbbfnmneiaaSts
namespace Go.Proofs.Ytdpkbbbfnmneiaa
open Go.ChangeShapes Go.WideShapes Go.ChangeAt Go.RowKit
set_option linter.unusedVariables false

/-- Lists in blocks of their own, from their beginning on. -/
def ownS (B : Nat → Nat) (X : Nat → St) : Nat → Spot := fun i => ⟨some ⟨B i, 0, none⟩, B i, 0, (X i).n⟩
def ownR (C : Nat → Nat) (B : Nat → Nat → Nat) (R : Nat → Rw) : Nat → RSpot := fun i => ⟨some ⟨C i, 0, none⟩, C i, 0, (R i).n, ownS (B i) (R i).x⟩
/-- What lies in the copy's list when k states are copied. -/
structure PartS (w : World) (G m k : Nat) (X : Nat → St) (B : Nat → Nat) (W : World) : Prop where
  below : Below w.heap.size w W
  lt : G < W.heap.size
  on : ∀ i, i < m → W.cell? ⟨G, i * 4, none⟩ = some (.bool (if i < k then (X i).on else false))
  vars : ∀ i, i < m → W.cell? ⟨G, i * 4 + 1, none⟩ = some (if i < k then .slice (some ⟨B i, 0, none⟩) (X i).n (X i).n else .slice none 0 0)
  c : ∀ i, i < m → W.cell? ⟨G, i * 4 + 2, none⟩ = some (.int .i64 (if i < k then (X i).c else 0))
  d : ∀ i, i < m → W.cell? ⟨G, i * 4 + 3, none⟩ = some (.int .i64 (if i < k then (X i).d else 0))
  free : ∀ i, W.frozen? ⟨G, i, none⟩ = false
  behind : ∀ i, i < k → G < B i
  bnds : ∀ i, i < k → BndsAt (some ⟨B i, 0, none⟩) (B i) 0 (X i).n (X i).lo (X i).hi W
  fb : ∀ i, i < k → ∀ j, W.frozen? ⟨B i, j, none⟩ = false
  lb : ∀ i, i < k → B i < W.heap.size
theorem PartS.next {w : World} {G m k : Nat} {X : Nat → St} {B : Nat → Nat} {W W' : World} (h : PartS w G m k X B W) (hb : Below W.heap.size W W') : PartS w G m k X B W' :=
  have q : ∀ o, W'.cell? ⟨G, o, none⟩ = W.cell? ⟨G, o, none⟩ := fun o => hb.cell (p := ⟨G, o, none⟩) h.lt
  ⟨below_tr h.below hb, Nat.lt_of_lt_of_le h.lt hb.size, fun i hi => (q _).trans (h.on i hi), fun i hi => (q _).trans (h.vars i hi), fun i hi => (q _).trans (h.c i hi), fun i hi => (q _).trans (h.d i hi), fun i => (hb.frozen (p := ⟨G, i, none⟩) h.lt).trans (h.free i), h.behind, fun i hi => (h.bnds i hi).next hb, fun i hi j => (hb.frozen (p := ⟨B i, j, none⟩) (h.lb i hi)).trans (h.fb i hi j), fun i hi => Nat.lt_of_lt_of_le (h.lb i hi) hb.size⟩
/-- One state more. -/
theorem PartS.put {w : World} {G m k : Nat} {X : Nat → St} {B : Nat → Nat} {W : World} {g : Nat} (hk : k < m) (hw : w.heap.size ≤ G) (h : PartS w G m k X B W) (hg : G < g) (hC : BndsAt (some ⟨g, 0, none⟩) g 0 (X k).n (X k).lo (X k).hi W) (hfg : ∀ j, W.frozen? ⟨g, j, none⟩ = false) (hlg : g < W.heap.size) :
    PartS w G m (k + 1) X (fun i => if i = k then g else B i) (setAll G (k * 4) [.bool (X k).on, .slice (some ⟨g, 0, none⟩) (X k).n (X k).n, .int .i64 (X k).c, .int .i64 (X k).d] W) := by
  have hsome : ∀ j, j < [(.bool (X k).on : Value), .slice (some ⟨g, 0, none⟩) (X k).n (X k).n, .int .i64 (X k).c, .int .i64 (X k).d].length → (W.cell? ⟨G, k * 4 + j, none⟩).isSome = true := fun j hj => by
    rcases (show j = 0 ∨ j = 1 ∨ j = 2 ∨ j = 3 by simp at hj; omega) with rfl | rfl | rfl | rfl
    · rw [Nat.add_zero, h.on k hk]; rfl
    · rw [h.vars k hk]; rfl
    · rw [h.c k hk]; rfl
    · rw [h.d k hk]; rfl
  have oth : ∀ i d, i ≠ k → d < 4 → (setAll G (k * 4) [.bool (X k).on, .slice (some ⟨g, 0, none⟩) (X k).n (X k).n, .int .i64 (X k).c, .int .i64 (X k).d] W).cell? ⟨G, i * 4 + d, none⟩ = W.cell? ⟨G, i * 4 + d, none⟩ := fun i d hi hd => setAll_other _ _ _ _ (fun j hj e => by
    have hj' : j < 4 := by simpa using hj
    have : i * 4 + d = k * 4 + j := by injection e
    omega)
  refine ⟨setAll_below hw _ _ _ h.below, Nat.lt_of_lt_of_le h.lt (setAll_below (B := 0) (w := W) (Nat.zero_le _) _ _ W (Below.refl _ _)).size, fun i hi => ?_, fun i hi => ?_, fun i hi => ?_, fun i hi => ?_, fun i => (setAll_frozen _ _ _ _).trans (h.free i), fun i hi => ?_, fun i hi => ?_, fun i hi j => ?_, fun i hi => ?_⟩
  · by_cases hik : i = k
    · subst hik
      rw [if_pos (by omega)]
      exact setAll_at _ (i * 4) W 0 _ hsome rfl
    · have := oth i 0 hik (by omega)
      rw [Nat.add_zero] at this
      rw [this, h.on i hi]
      by_cases h1 : i < k
      · rw [if_pos h1, if_pos (by omega)]
      · rw [if_neg h1, if_neg (by omega)]
  · by_cases hik : i = k
    · subst hik
      rw [if_pos (by omega), if_pos rfl]
      exact setAll_at _ (i * 4) W 1 _ hsome rfl
    · rw [oth i 1 hik (by omega), h.vars i hi, if_neg hik]
      by_cases h1 : i < k
      · rw [if_pos h1, if_pos (by omega)]
      · rw [if_neg h1, if_neg (by omega)]
  · by_cases hik : i = k
    · subst hik
      rw [if_pos (by omega)]
      exact setAll_at _ (i * 4) W 2 _ hsome rfl
    · rw [oth i 2 hik (by omega), h.c i hi]
      by_cases h1 : i < k
      · rw [if_pos h1, if_pos (by omega)]
      · rw [if_neg h1, if_neg (by omega)]
  · by_cases hik : i = k
    · subst hik
      rw [if_pos (by omega)]
      exact setAll_at _ (i * 4) W 3 _ hsome rfl
    · rw [oth i 3 hik (by omega), h.d i hi]
      by_cases h1 : i < k
      · rw [if_pos h1, if_pos (by omega)]
      · rw [if_neg h1, if_neg (by omega)]
  · by_cases hik : i = k
    · simp only [hik, if_true]; exact hg
    · simp only [hik, if_false]; exact h.behind i (by omega)
  · by_cases hik : i = k
    · subst hik
      simp only [if_true]
      exact hC.set (by omega)
    · simp only [hik, if_false]
      exact (h.bnds i (by omega)).set (by have := h.behind i (by omega); omega)
  · rw [setAll_frozen]
    by_cases hik : i = k
    · simp only [hik, if_true]; exact hfg j
    · simp only [hik, if_false]; exact h.fb i (by omega) j
  · refine Nat.lt_of_lt_of_le ?_ (setAll_below (B := 0) (w := W) (Nat.zero_le _) _ _ W (Below.refl _ _)).size
    by_cases hik : i = k
    · simp only [hik, if_true]; exact hlg
    · simp only [hik, if_false]; exact h.lb i (by omega)
/-- The copy's list lies in block g, its bounds behind it; none of them is frozen. -/
structure FreshS (g m : Nat) (B : Nat → Nat) (W : World) : Prop where
  behind : ∀ i, i < m → g < B i
  free : ∀ i, W.frozen? ⟨g, i, none⟩ = false
  fb : ∀ i, i < m → ∀ j, W.frozen? ⟨B i, j, none⟩ = false
  lt : g < W.heap.size
  lb : ∀ i, i < m → B i < W.heap.size
theorem FreshS.next {g m : Nat} {B : Nat → Nat} {W W' : World} (h : FreshS g m B W) (hb : Below W.heap.size W W') : FreshS g m B W' :=
  ⟨h.behind, fun i => (hb.frozen (p := ⟨g, i, none⟩) h.lt).trans (h.free i), fun i hi j => (hb.frozen (p := ⟨B i, j, none⟩) (h.lb i hi)).trans (h.fb i hi j), Nat.lt_of_lt_of_le h.lt hb.size, fun i hi => Nat.lt_of_lt_of_le (h.lb i hi) hb.size⟩
theorem FreshS.set {g m : Nat} {B : Nat → Nat} {W : World} (h : FreshS g m B W) (p : Addr) (v : Value) : FreshS g m B (W.setCell p v) :=
  ⟨h.behind, fun i => (World.frozen?_setCell ..).trans (h.free i), fun i hi j => (World.frozen?_setCell ..).trans (h.fb i hi j), by simpa [World.setCell] using h.lt, fun i hi => by simpa [World.setCell] using h.lb i hi⟩
theorem PartS.fresh {w : World} {G m : Nat} {X : Nat → St} {B : Nat → Nat} {W : World} (h : PartS w G m m X B W) : FreshS G m B W := ⟨h.behind, h.free, h.fb, h.lt, h.lb⟩
theorem PartS.whole {w : World} {G m : Nat} {X : Nat → St} {B : Nat → Nat} {W : World} (h : PartS w G m m X B W) : StsAt (some ⟨G, 0, none⟩) G 0 m X (ownS B X) W :=
  ⟨fun _ => rfl, fun _ => h.lt, fun i hi => by rw [Nat.zero_add, h.on i hi, if_pos hi], fun i hi => by rw [Nat.zero_add, h.vars i hi, if_pos hi]; rfl, fun i hi => by rw [Nat.zero_add, h.c i hi, if_pos hi], fun i hi => by rw [Nat.zero_add, h.d i hi, if_pos hi], h.bnds⟩

set_option maxRecDepth 10000 in
set_option maxHeartbeats 4000000 in
theorem toSts (a : Option Addr) (b off m cap : Nat) (X : Nat → St) (S : Nat → Spot) (w : World) (hm : m ≤ 1048576) (hn : ∀ i, i < m → (X i).n ≤ 1048576) (hP : StsAt a b off m X S w) :
    Calls Try.prog 89 #[.slice a m cap] w fun e w' => ∃ (g : Nat) (B : Nat → Nat), e = .returned (.slice (some ⟨g, 0, none⟩) m m) ∧ w.heap.size ≤ g ∧ g < w'.heap.size ∧ StsAt (some ⟨g, 0, none⟩) g 0 m X (ownS B X) w' ∧ FreshS g m B w' ∧ Below w.heap.size w w' := by
  have hmk := fun W => make_rows (P := Try.prog) 86 77 (.agg #[.bool false, .slice none 0 0, .int .i64 0, .int .i64 0]) 4 48 Try.underlying86 (by kernel_rfl) m (by omega) (by omega) W
  go_enter Try.func89, Try.ntmps89
  go_wp2
  have h0 : PartS w w.heap.size m 0 X (fun _ => 0) (w.alloc (.cells (madeCells #[.bool false, .slice none 0 0, .int .i64 0, .int .i64 0] (m * 4)) 77)) :=
    ⟨(Below.refl _ _).alloc (Nat.le_refl _) _, by simp, fun i hi => by rw [made_cell _ _ _ _ _ (by omega)]; simp, fun i hi => by rw [made_cell _ _ _ _ _ (by omega), show (i * 4 + 1) % (#[(.bool false : Value), .slice none 0 0, .int .i64 0, .int .i64 0] : Array Value).size = 1 by simp <;> omega]; simp, fun i hi => by rw [made_cell _ _ _ _ _ (by omega), show (i * 4 + 2) % (#[(.bool false : Value), .slice none 0 0, .int .i64 0, .int .i64 0] : Array Value).size = 2 by simp <;> omega]; simp, fun i hi => by rw [made_cell _ _ _ _ _ (by omega), show (i * 4 + 3) % (#[(.bool false : Value), .slice none 0 0, .int .i64 0, .int .i64 0] : Array Value).size = 3 by simp <;> omega]; simp, fun i => World.frozen?_alloc_new _ _ _ _, fun i hi => by omega, fun i hi => by omega, fun i hi => by omega, fun i hi => by omega⟩
  generalize w.alloc (.cells (madeCells #[.bool false, .slice none 0 0, .int .i64 0, .int .i64 0] (m * 4)) 77) = W1 at h0 ⊢
  clear hmk
  obtain ⟨g, hg⟩ : ∃ g, g = w.heap.size := ⟨_, rfl⟩
  have hgS : Hid (g = w.heap.size) := hg
  rw [← hg] at h0
  rw [← hg]
  clear hg
  go_loopw [4] (fun i wr => ∃ (k : Nat) (B : Nat → Nat), k ≤ m ∧ i = .int .i64 k ∧ PartS w g m k X B wr) (fun i _ => m - (intOf i).toNat)
  case atStart => exact ⟨0, _, Nat.zero_le _, rfl, h0⟩
  case round =>
    obtain ⟨k, B, hk, rfl, hR⟩ := hrel
    clear h0
    by_cases hlt : k < m
    · have hP' := hP.next hR.below
      have e1 := hP'.at_ (by omega)
      have c0 := hP'.on k hlt
      have c1 := hP'.vars k hlt
      have c2 := hP'.c k hlt
      have c3 := hP'.d k hlt
      have hC := hP'.bnds k hlt
      have hn' := hn k hlt
      have t1 : ((k : Int)).toNat = k := by omega
      have t2 : (0 : Int) ≤ (k : Int) := by omega
      have t3 : (k : Int) < (m : Int) := by omega
      subst e1
      clear hP hP' hn
      generalize S k = s at c1 hC
      go_wp2_with fail
      refine (toAbs _ _ _ _ _ _ _ _ _ _ _ hn' hC).mono ?_
      rintro e w1 ⟨x, rfl, hx, hx1, hK, hfx, hb⟩
      have hR1 := hR.next hb
      have hgx : g < x := Nat.lt_of_lt_of_le hR.lt hx
      have z0 := hR1.on k hlt
      have z1 := hR1.vars k hlt
      have z2 := hR1.c k hlt
      have z3 := hR1.d k hlt
      rw [if_neg (by omega)] at z0 z1 z2 z3
      have f0 := hR1.free
      clear c0 c1 c2 c3 hC
      go_wp2_with fail
      go_roundw
      case measure => simp [intOf]; omega
      exact ⟨k + 1, _, by omega, by go_num, hR1.put hlt (by rw [hgS.out]; exact Nat.le_refl _) hgx hK hfx hx1⟩
    · obtain rfl : k = m := by omega
      go_wp2_with fail
      go_ret
      exact ⟨g, B, rfl, by rw [hgS.out]; exact Nat.le_refl _, hR.lt, hR.whole, hR.fresh, hR.below⟩

/-- What lies in the copy's list when k rows are copied. -/
structure PartR (w : World) (G m k : Nat) (R : Nat → Rw) (C : Nat → Nat) (B : Nat → Nat → Nat) (W : World) : Prop where
  below : Below w.heap.size w W
  lt : G < W.heap.size
  cell : ∀ i, i < m → W.cell? ⟨G, i, none⟩ = some (if i < k then .slice (some ⟨C i, 0, none⟩) (R i).n (R i).n else .slice none 0 0)
  free : ∀ i, W.frozen? ⟨G, i, none⟩ = false
  behind : ∀ i, i < k → G < C i
  row : ∀ i, i < k → StsAt (some ⟨C i, 0, none⟩) (C i) 0 (R i).n (R i).x (ownS (B i) (R i).x) W
  fr : ∀ i, i < k → FreshS (C i) (R i).n (B i) W
theorem PartR.next {w : World} {G m k : Nat} {R : Nat → Rw} {C : Nat → Nat} {B : Nat → Nat → Nat} {W W' : World} (h : PartR w G m k R C B W) (hb : Below W.heap.size W W') : PartR w G m k R C B W' :=
  ⟨below_tr h.below hb, Nat.lt_of_lt_of_le h.lt hb.size, fun i hi => (hb.cell (p := ⟨G, i, none⟩) h.lt).trans (h.cell i hi), fun i => (hb.frozen (p := ⟨G, i, none⟩) h.lt).trans (h.free i), h.behind, fun i hi => (h.row i hi).next hb, fun i hi => (h.fr i hi).next hb⟩
theorem PartR.put {w : World} {G m k : Nat} {R : Nat → Rw} {C : Nat → Nat} {B : Nat → Nat → Nat} {W : World} {g : Nat} {D : Nat → Nat} (hk : k < m) (hw : w.heap.size ≤ G) (h : PartR w G m k R C B W) (hg : G < g) (hC : StsAt (some ⟨g, 0, none⟩) g 0 (R k).n (R k).x (ownS D (R k).x) W) (hf : FreshS g (R k).n D W) :
    PartR w G m (k + 1) R (fun i => if i = k then g else C i) (fun i => if i = k then D else B i) (W.setCell ⟨G, k, none⟩ (.slice (some ⟨g, 0, none⟩) (R k).n (R k).n)) := by
  have hb0 : Below 0 W (W.setCell ⟨G, k, none⟩ (.slice (some ⟨g, 0, none⟩) (R k).n (R k).n)) := (Below.refl _ _).setCell (Nat.zero_le _) _
  refine ⟨h.below.setCell hw _, Nat.lt_of_lt_of_le h.lt hb0.size, fun i hi => ?_, fun i => (World.frozen?_setCell ..).trans (h.free i), fun i hi => ?_, fun i hi => ?_, fun i hi => ?_⟩
  · by_cases hik : i = k
    · subst hik
      rw [if_pos (by omega), if_pos rfl]
      exact World.cell?_setCell_same _ _ _ (h.cell i hi)
    · rw [World.cell?_setCell_other _ _ _ _ (by intro e; injection e with _ e; exact hik e.symm), h.cell i hi, if_neg hik]
      by_cases h1 : i < k
      · rw [if_pos h1, if_pos (by omega)]
      · rw [if_neg h1, if_neg (by omega)]
  · by_cases hik : i = k
    · simp only [hik, if_true]; exact hg
    · simp only [hik, if_false]; exact h.behind i (by omega)
  · by_cases hik : i = k
    · subst hik
      simp only [if_true]
      exact StsAt.set (G := G) (o := i) (vs := [.slice (some ⟨g, 0, none⟩) (R i).n (R i).n]) hC (by omega) (fun j hj => by have := hf.behind j hj; show D j ≠ G; omega)
    · simp only [hik, if_false]
      have hbi := h.behind i (by omega)
      exact StsAt.set (G := G) (o := k) (vs := [.slice (some ⟨g, 0, none⟩) (R k).n (R k).n]) (h.row i (by omega)) (by omega) (fun j hj => by have := (h.fr i (by omega)).behind j hj; show B i j ≠ G; omega)
  · by_cases hik : i = k
    · subst hik
      simp only [if_true]; exact hf.set _ _
    · simp only [hik, if_false]; exact (h.fr i (by omega)).set _ _
structure FreshR (g m : Nat) (R : Nat → Rw) (C : Nat → Nat) (B : Nat → Nat → Nat) (W : World) : Prop where
  behind : ∀ i, i < m → g < C i
  free : ∀ i, W.frozen? ⟨g, i, none⟩ = false
  lt : g < W.heap.size
  fr : ∀ i, i < m → FreshS (C i) (R i).n (B i) W
theorem FreshR.next {g m : Nat} {R : Nat → Rw} {C : Nat → Nat} {B : Nat → Nat → Nat} {W W' : World} (h : FreshR g m R C B W) (hb : Below W.heap.size W W') : FreshR g m R C B W' :=
  ⟨h.behind, fun i => (hb.frozen (p := ⟨g, i, none⟩) h.lt).trans (h.free i), Nat.lt_of_lt_of_le h.lt hb.size, fun i hi => (h.fr i hi).next hb⟩
theorem FreshR.set {g m : Nat} {R : Nat → Rw} {C : Nat → Nat} {B : Nat → Nat → Nat} {W : World} (h : FreshR g m R C B W) (p : Addr) (v : Value) : FreshR g m R C B (W.setCell p v) :=
  ⟨h.behind, fun i => (World.frozen?_setCell ..).trans (h.free i), by simpa [World.setCell] using h.lt, fun i hi => (h.fr i hi).set _ _⟩
theorem FreshR.blocks {g m : Nat} {R : Nat → Rw} {C : Nat → Nat} {B : Nat → Nat → Nat} {W : World} (h : FreshR g m R C B W) {x : Nat} (hx : x ≤ g) : ∀ i, i < m → (ownR C B R i).b ≠ x ∧ ∀ j, j < (R i).n → ((ownR C B R i).s j).b ≠ x := fun i hi =>
  ⟨by have := h.behind i hi; show C i ≠ x; omega, fun j hj => by have := h.behind i hi; have := (h.fr i hi).behind j hj; show B i j ≠ x; omega⟩

set_option maxRecDepth 10000 in
set_option maxHeartbeats 4000000 in
theorem toRows (a : Option Addr) (b off m cap : Nat) (R : Nat → Rw) (T : Nat → RSpot) (w : World) (hm : m ≤ 1048576) (hn : ∀ i, i < m → (R i).n ≤ 1048576 ∧ ∀ j, j < (R i).n → ((R i).x j).n ≤ 1048576) (hP : RowsAt a b off m R T w) :
    Calls Try.prog 46 #[.slice a m cap] w fun e w' => ∃ (g : Nat) (C : Nat → Nat) (B : Nat → Nat → Nat), e = .returned (.slice (some ⟨g, 0, none⟩) m m) ∧ w.heap.size ≤ g ∧ g < w'.heap.size ∧ RowsAt (some ⟨g, 0, none⟩) g 0 m R (ownR C B R) w' ∧ FreshR g m R C B w' ∧ Below w.heap.size w w' := by
  have hmk := fun W => make_rows (P := Try.prog) 38 86 (.slice none 0 0) 1 24 Try.underlying38 (by kernel_rfl) m (by omega) (by omega) W
  rw [Nat.mul_one] at hmk
  go_enter Try.func46, Try.ntmps46
  go_wp2
  have h0 : PartR w w.heap.size m 0 R (fun _ => 0) (fun _ _ => 0) (w.alloc (.cells (madeCells (Value.slice none 0 0).cells m) 86)) :=
    ⟨(Below.refl _ _).alloc (Nat.le_refl _) _, by simp, fun i hi => by rw [made_cell _ _ _ _ _ (by omega), show i % (Value.slice none 0 0).cells.size = 0 by simp [Value.cells, Nat.mod_one]]; simp [Value.cells], fun i => World.frozen?_alloc_new _ _ _ _, fun i hi => by omega, fun i hi => by omega, fun i hi => by omega⟩
  simp only [Value.cells] at h0
  generalize w.alloc (.cells (madeCells #[.slice none 0 0] m) 86) = W1 at h0 ⊢
  clear hmk
  obtain ⟨g, hg⟩ : ∃ g, g = w.heap.size := ⟨_, rfl⟩
  have hgS : Hid (g = w.heap.size) := hg
  rw [← hg] at h0
  rw [← hg]
  clear hg
  go_loopw [4] (fun i wr => ∃ (k : Nat) (C : Nat → Nat) (B : Nat → Nat → Nat), k ≤ m ∧ i = .int .i64 k ∧ PartR w g m k R C B wr) (fun i _ => m - (intOf i).toNat)
  case atStart => exact ⟨0, _, _, Nat.zero_le _, rfl, h0⟩
  case round =>
    obtain ⟨k, C, B, hk, rfl, hR⟩ := hrel
    clear h0
    by_cases hlt : k < m
    · have hP' := hP.next hR.below
      have e1 := hP'.at_ (by omega)
      have c0 := hP'.cell k hlt
      have hC := hP'.row k hlt
      obtain ⟨hn1, hn2⟩ := hn k hlt
      have t1 : ((k : Int)).toNat = k := by omega
      have t2 : (0 : Int) ≤ (k : Int) := by omega
      have t3 : (k : Int) < (m : Int) := by omega
      subst e1
      clear hP hP' hn
      generalize T k = s at c0 hC
      go_wp2_with fail
      refine (toSts _ _ _ _ _ _ _ _ hn1 hn2 hC).mono ?_
      rintro e w1 ⟨x, D, rfl, hx, hx1, hK, hfx, hb⟩
      have hR1 := hR.next hb
      have hgx : g < x := Nat.lt_of_lt_of_le hR.lt hx
      have z0 := hR1.cell k hlt
      rw [if_neg (by omega)] at z0
      have f0 := hR1.free
      clear c0 hC hn1 hn2
      go_wp2_with fail
      go_roundw
      case measure => simp [intOf]; omega
      exact ⟨k + 1, _, _, by omega, by go_num, hR1.put hlt (by rw [hgS.out]; exact Nat.le_refl _) hgx hK hfx⟩
    · obtain rfl : k = m := by omega
      go_wp2_with fail
      go_ret
      exact ⟨g, C, B, rfl, by rw [hgS.out]; exact Nat.le_refl _, hR.lt, ⟨fun _ => rfl, fun _ => hR.lt, fun i hi => by rw [Nat.zero_add, hR.cell i hi, if_pos hi]; rfl, hR.row⟩, ⟨hR.behind, hR.free, hR.lt, hR.fr⟩, hR.below⟩

set_option maxHeartbeats 4000000 in
theorem toCert (a : Option Addr) (b off m cap : Nat) (R : Nat → Rw) (T : Nat → RSpot) (a' : Option Addr) (b' off' n cap' : Nat) (U : Nat → Sm) (w : World) (hm : m ≤ 1048576) (hn : ∀ i, i < m → (R i).n ≤ 1048576 ∧ ∀ j, j < (R i).n → ((R i).x j).n ≤ 1048576) (hn' : n ≤ 1048576) (hP : RowsAt a b off m R T w) (hU : SumsAt a' b' off' n U w) :
    Calls Try.prog 13 #[.agg #[.slice a m cap, .slice a' n cap']] w fun e w' => ∃ (g : Nat) (C : Nat → Nat) (B : Nat → Nat → Nat) (h : Nat), e = .returned (.agg #[.slice (some ⟨g, 0, none⟩) m m, .slice (some ⟨h, 0, none⟩) n n]) ∧ w.heap.size ≤ g ∧ g < w'.heap.size ∧ h < w'.heap.size ∧ g < h ∧ RowsAt (some ⟨g, 0, none⟩) g 0 m R (ownR C B R) w' ∧ FreshR g m R C B w' ∧ SumsAt (some ⟨h, 0, none⟩) h 0 n U w' ∧ Below w.heap.size w w' := by
  have H0 : HeldL w [(w.heap.size + 1 + 1, [Value.slice none 0 0, .slice none 0 0]), (w.heap.size + 1, [Value.slice none 0 0, .slice none 0 0]), (w.heap.size, [Value.slice a m cap, .slice a' n cap'])] (((w.alloc (.cells #[.slice a m cap, .slice a' n cap'] 29)).alloc (.cells #[.slice none 0 0, .slice none 0 0] 41)).alloc (.cells #[.slice none 0 0, .slice none 0 0] 41)) := by
    have e1 : w.heap.size + 1 = (w.alloc (.cells #[.slice a m cap, .slice a' n cap'] 29)).heap.size := by simp
    have e2 : w.heap.size + 1 + 1 = ((w.alloc (.cells #[.slice a m cap, .slice a' n cap'] 29)).alloc (.cells #[.slice none 0 0, .slice none 0 0] 41)).heap.size := by simp
    rw [e2, e1]
    exact HeldL.newL (vs := [Value.slice none 0 0, .slice none 0 0]) (HeldL.newL (vs := [Value.slice none 0 0, .slice none 0 0]) (HeldL.newL (vs := [Value.slice a m cap, .slice a' n cap']) (HeldL.nil w)))
  have ne2 : ∀ e ∈ [(w.heap.size + 1, [Value.slice none 0 0, .slice none 0 0]), (w.heap.size, [Value.slice a m cap, .slice a' n cap'])], e.1 ≠ w.heap.size + 1 + 1 := by intro e he; simp at he; rcases he with rfl | rfl <;> dsimp only <;> omega
  have I0 := hP.next H0.below
  clear hP
  go_enter Try.func13, Try.ntmps13
  go_wp2_with fail
  refine (toRows _ _ _ _ _ _ _ _ hm hn I0).mono ?_
  rintro e w1 ⟨g, C, B, rfl, hg, hg1, hK, hfK, hb⟩
  have H1 := H0.next hb
  have gg : w.heap.size + 1 + 1 + 1 ≤ g := by simpa using hg
  clear H0 I0 hb hg hn
  have x1 := H1.cell List.mem_cons_self (i := 0) rfl
  have f1 := H1.free _ List.mem_cons_self 0
  have H2 := HeldL.putI (i := 0) (x := .slice (some ⟨g, 0, none⟩) m m) (by omega) ne2 H1 (by simp)
  simp only [List.set_cons_zero] at H2
  have y1 := H2.cell (List.mem_cons_of_mem _ (List.mem_cons_of_mem _ List.mem_cons_self)) (i := 1) rfl
  dsimp only at x1 f1 y1
  have bl := hfK.blocks (x := w.heap.size + 1 + 1) (by omega)
  have bl1 := hfK.blocks (x := w.heap.size + 1) (by omega)
  have hK1 : RowsAt (some ⟨g, 0, none⟩) g 0 m R (ownR C B R) (w1.setCell ⟨w.heap.size + 1 + 1, 0, none⟩ (.slice (some ⟨g, 0, none⟩) m m)) := RowsAt.set (o := 0) (vs := [.slice (some ⟨g, 0, none⟩) m m]) hK (by omega) bl
  have hf1 := hfK.set ⟨w.heap.size + 1 + 1, 0, none⟩ (.slice (some ⟨g, 0, none⟩) m m)
  have s1 : (w1.setCell ⟨w.heap.size + 1 + 1, 0, none⟩ (.slice (some ⟨g, 0, none⟩) m m)).heap.size = w1.heap.size := by simp [World.setCell]
  have J2 := hU.next H2.below
  clear H1 hK hfK hU
  go_wp2_with fail
  refine (toSums _ _ _ _ _ _ _ hn' J2).mono ?_
  rintro e w2 ⟨h, rfl, hh, hh1, hL, hb'⟩
  have H3 := H2.next hb'
  have hK2 := hK1.next hb'
  have hf2 := hf1.next hb'
  have gs : g < w2.heap.size := Nat.lt_of_lt_of_le (by rw [s1]; exact hg1) hb'.size
  have gh : g < h := Nat.lt_of_lt_of_le (by rw [← s1] at hg1; exact hg1) hh
  clear H2 hK1 hf1 hb' x1 f1 y1 J2
  have x2 := H3.cell List.mem_cons_self (i := 1) rfl
  have fB := H3.free _ List.mem_cons_self
  have H4 := HeldL.putI (i := 1) (x := .slice (some ⟨h, 0, none⟩) n n) (by omega) ne2 H3 (by simp)
  simp only [List.set_cons_succ, List.set_cons_zero] at H4
  have o0 := H4.cell List.mem_cons_self (i := 0) rfl
  have o1 := H4.cell List.mem_cons_self (i := 1) rfl
  have HR := H4.sub (L' := [(w.heap.size + 1, [Value.slice none 0 0, .slice none 0 0])]) (fun e he => by simp at he; subst he; simp)
  have r0 := HR.cell List.mem_cons_self (i := 0) rfl
  have r1 := HR.cell List.mem_cons_self (i := 1) rfl
  have fr := HR.free _ List.mem_cons_self
  dsimp only at x2 fB o0 r0 o1 r1 fr
  obtain ⟨e0, e1⟩ := own2 r0 r1
  have bE := H4.below
  clear H3 HR
  go_wp2_with fail
  refine bodyPost_ret (v := .agg #[.slice (some ⟨g, 0, none⟩) m m, .slice (some ⟨h, 0, none⟩) n n]) (by simp [results, Try.results13, go_sem, e0, e1]) rfl ⟨g, C, B, h, rfl, by omega, ?_, ?_, gh, ?_, ?_, ?_, ?_⟩
  · simpa [World.setCell] using gs
  · simpa [World.setCell] using hh1
  · exact RowsAt.set (G := w.heap.size + 1) (o := 0) (vs := [.slice (some ⟨g, 0, none⟩) m m, .slice (some ⟨h, 0, none⟩) n n]) (RowsAt.set (G := w.heap.size + 1 + 1) (o := 1) (vs := [.slice (some ⟨h, 0, none⟩) n n]) hK2 (by omega) bl) (by omega) bl1
  · exact ((hf2.set _ _).set _ _).set _ _
  · exact SumsAt.set (G := w.heap.size + 1) (o := 0) (vs := [.slice (some ⟨g, 0, none⟩) m m, .slice (some ⟨h, 0, none⟩) n n]) (SumsAt.set (G := w.heap.size + 1 + 1) (o := 1) (vs := [.slice (some ⟨h, 0, none⟩) n n]) hL (by omega)) (by omega)
  · exact setAll_below (g := w.heap.size + 1) (by omega) [.slice (some ⟨g, 0, none⟩) m m, .slice (some ⟨h, 0, none⟩) n n] 0 _ bE
end Go.Proofs.Ytdpkbbbfnmneiaa
