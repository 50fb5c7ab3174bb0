/- Programs copied, whole. -/
import Derived.Test.YtiehokibfdaleaaPrgTo
namespace Go.Proofs.Ytiehokibfdaleaa
open Go.ChangeShapes Go.WideShapes Go.ChangeAt Go.RowKit

theorem ProcsAt.set {a : Option Addr} {b off m : Nat} {P : Nat → Proc} {S : Nat → Spot} {W : World} {G o : Nat} {vs : List Value} (h : ProcsAt a b off m P S W) (hne : b ≠ G) (hs : ∀ i, i < m → (S i).b ≠ G) : ProcsAt a b off m P S (setAll G o vs W) :=
  have k : ∀ q, (setAll G o vs W).cell? ⟨b, q, none⟩ = W.cell? ⟨b, q, none⟩ := fun q => setAll_other _ _ _ _ (fun j' _ e => hne (by injection e))
  ⟨h.at_, fun hm => Nat.lt_of_lt_of_le (h.lt hm) (setAll_below (B := 0) (w := W) (Nat.zero_le _) vs o W (Below.refl _ _)).size, fun i hi => (k _).trans (h.lo i hi), fun i hi => (k _).trans (h.hi i hi), fun i hi => (k _).trans (h.code i hi), fun i hi => (h.steps i hi).set (hs i hi)⟩

/-- A copy: each procedure's steps lie in a block of their own, from its beginning on. -/
def Copy (S : Nat → Spot) (P : Nat → Proc) (m : Nat) : Prop := ∀ i, i < m → S i = ⟨some ⟨(S i).b, 0, none⟩, (S i).b, 0, (P i).n⟩
/-- What lies in the copy's list when k procedures are copied. -/
structure Part (w : World) (G m k : Nat) (P : Nat → Proc) (S : Nat → Spot) (W : World) : Prop where
  below : Below w.heap.size w W
  lt : G < W.heap.size
  lo : ∀ i, i < m → W.cell? ⟨G, i * 3, none⟩ = some (.int .i64 (if i < k then (P i).lo else 0))
  hi : ∀ i, i < m → W.cell? ⟨G, i * 3 + 1, none⟩ = some (.int .i64 (if i < k then (P i).hi else 0))
  code : ∀ i, i < m → W.cell? ⟨G, i * 3 + 2, none⟩ = some (if i < k then .slice (S i).a (P i).n (S i).cap else .slice none 0 0)
  free : ∀ i, W.frozen? ⟨G, i, none⟩ = false
  behind : ∀ i, i < k → G < (S i).b
  steps : ∀ i, i < k → CodeAt (S i).a (S i).b (S i).off (P i).n (P i).c W
  copy : Copy S P k
  fcode : ∀ i, i < k → ∀ j, W.frozen? ⟨(S i).b, j, none⟩ = false
  lcode : ∀ i, i < k → (S i).b < W.heap.size
theorem Part.next {w : World} {G m k : Nat} {P : Nat → Proc} {S : Nat → Spot} {W W' : World} (h : Part w G m k P S W) (hb : Below W.heap.size W W') : Part w G m k P S W' :=
  have q : ∀ o, W'.cell? ⟨G, o, none⟩ = W.cell? ⟨G, o, none⟩ := fun o => hb.cell (p := ⟨G, o, none⟩) h.lt
  ⟨below_tr h.below hb, Nat.lt_of_lt_of_le h.lt hb.size, fun i hi => (q _).trans (h.lo i hi), fun i hi => (q _).trans (h.hi i hi), fun i hi => (q _).trans (h.code i hi), fun i => (hb.frozen (p := ⟨G, i, none⟩) h.lt).trans (h.free i), h.behind, fun i hi => (h.steps i hi).next hb, h.copy, fun i hi j => (hb.frozen (p := ⟨(S i).b, j, none⟩) (h.lcode i hi)).trans (h.fcode i hi j), fun i hi => Nat.lt_of_lt_of_le (h.lcode i hi) hb.size⟩
/-- One procedure more. -/
theorem Part.put {w : World} {G m k : Nat} {P : Nat → Proc} {S : Nat → Spot} {W : World} {g : Nat} (hk : k < m) (hw : w.heap.size ≤ G) (h : Part w G m k P S W) (hg : G < g) (hC : CodeAt (some ⟨g, 0, none⟩) g 0 (P k).n (P k).c W) (hfg : ∀ j, W.frozen? ⟨g, j, none⟩ = false) (hlg : g < W.heap.size) :
    Part w G m (k + 1) P (fun i => if i = k then ⟨some ⟨g, 0, none⟩, g, 0, (P k).n⟩ else S i) (setAll G (k * 3) [.int .i64 (P k).lo, .int .i64 (P k).hi, .slice (some ⟨g, 0, none⟩) (P k).n (P k).n] W) := by
  have hsome : ∀ j, j < [(.int .i64 (P k).lo : Value), .int .i64 (P k).hi, .slice (some ⟨g, 0, none⟩) (P k).n (P k).n].length → (W.cell? ⟨G, k * 3 + j, none⟩).isSome = true := fun j hj => by
    rcases (show j = 0 ∨ j = 1 ∨ j = 2 by simp at hj; omega) with rfl | rfl | rfl
    · rw [Nat.add_zero, h.lo k hk]; rfl
    · rw [h.hi k hk]; rfl
    · rw [h.code k hk]; rfl
  have oth : ∀ i d, i ≠ k → d < 3 → (setAll G (k * 3) [.int .i64 (P k).lo, .int .i64 (P k).hi, .slice (some ⟨g, 0, none⟩) (P k).n (P k).n] W).cell? ⟨G, i * 3 + d, none⟩ = W.cell? ⟨G, i * 3 + d, none⟩ := fun i d hi hd => setAll_other _ _ _ _ (fun j hj e => by
    have hj' : j < 3 := by simpa using hj
    have : i * 3 + d = k * 3 + j := by injection e
    omega)
  refine ⟨setAll_below hw _ _ _ h.below, Nat.lt_of_lt_of_le h.lt (setAll_below (B := 0) (w := W) (Nat.zero_le _) _ _ W (Below.refl _ _)).size, fun i hi => ?_, fun i hi => ?_, fun i hi => ?_, fun i => (setAll_frozen _ _ _ _).trans (h.free i), fun i hi => ?_, fun i hi => ?_, fun i hi => ?_, fun i hi j => ?_, fun i hi => ?_⟩
  · by_cases hik : i = k
    · subst hik
      rw [if_pos (by omega)]
      exact setAll_at _ (i * 3) W 0 _ hsome rfl
    · have := oth i 0 hik (by omega)
      rw [Nat.add_zero] at this
      rw [this, h.lo i hi]
      by_cases h1 : i < k
      · rw [if_pos h1, if_pos (by omega)]
      · rw [if_neg h1, if_neg (by omega)]
  · by_cases hik : i = k
    · subst hik
      rw [if_pos (by omega)]
      exact setAll_at _ (i * 3) W 1 _ hsome rfl
    · rw [oth i 1 hik (by omega), h.hi i hi]
      by_cases h1 : i < k
      · rw [if_pos h1, if_pos (by omega)]
      · rw [if_neg h1, if_neg (by omega)]
  · by_cases hik : i = k
    · subst hik
      rw [if_pos (by omega), if_pos rfl]
      exact setAll_at _ (i * 3) W 2 _ hsome rfl
    · rw [oth i 2 hik (by omega), h.code i hi, if_neg hik]
      by_cases h1 : i < k
      · rw [if_pos h1, if_pos (by omega)]
      · rw [if_neg h1, if_neg (by omega)]
  · by_cases hik : i = k
    · rw [if_pos hik]; exact hg
    · rw [if_neg hik]; exact h.behind i (by omega)
  · by_cases hik : i = k
    · subst hik
      rw [if_pos rfl]
      exact hC.set (by omega)
    · rw [if_neg hik]
      exact (h.steps i (by omega)).set (by have := h.behind i (by omega); omega)
  · by_cases hik : i = k
    · subst hik
      simp only [if_true]
    · simp only [hik, if_false]
      exact h.copy i (by omega)
  · rw [setAll_frozen]
    by_cases hik : i = k
    · simp only [hik, if_true]; exact hfg j
    · simp only [hik, if_false]; exact h.fcode i (by omega) j
  · refine Nat.lt_of_lt_of_le ?_ (setAll_below (B := 0) (w := W) (Nat.zero_le _) _ _ W (Below.refl _ _)).size
    by_cases hik : i = k
    · simp only [hik, if_true]; exact hlg
    · simp only [hik, if_false]; exact h.lcode i (by omega)
/-- The copy's list lies in block g, its codes behind it; none of them is frozen. -/
structure Fresh (g m : Nat) (S : Nat → Spot) (W : World) : Prop where
  behind : ∀ i, i < m → g < (S i).b
  free : ∀ i, W.frozen? ⟨g, i, none⟩ = false
  fcode : ∀ i, i < m → ∀ j, W.frozen? ⟨(S i).b, j, none⟩ = false
  lt : g < W.heap.size
  lcode : ∀ i, i < m → (S i).b < W.heap.size
theorem Fresh.next {g m : Nat} {S : Nat → Spot} {W W' : World} (h : Fresh g m S W) (hb : Below W.heap.size W W') : Fresh g m S W' :=
  ⟨h.behind, fun i => (hb.frozen (p := ⟨g, i, none⟩) h.lt).trans (h.free i), fun i hi j => (hb.frozen (p := ⟨(S i).b, j, none⟩) (h.lcode i hi)).trans (h.fcode i hi j), Nat.lt_of_lt_of_le h.lt hb.size, fun i hi => Nat.lt_of_lt_of_le (h.lcode i hi) hb.size⟩
theorem Fresh.set {g m : Nat} {S : Nat → Spot} {W : World} (h : Fresh g m S W) (p : Addr) (v : Value) : Fresh g m S (W.setCell p v) :=
  ⟨h.behind, fun i => (World.frozen?_setCell ..).trans (h.free i), fun i hi j => (World.frozen?_setCell ..).trans (h.fcode i hi j), by simpa [World.setCell] using h.lt, fun i hi => by simpa [World.setCell] using h.lcode i hi⟩
theorem Part.fresh {w : World} {G m : Nat} {P : Nat → Proc} {S : Nat → Spot} {W : World} (h : Part w G m m P S W) : Fresh G m S W := ⟨h.behind, h.free, h.fcode, h.lt, h.lcode⟩
theorem Part.whole {w : World} {G m : Nat} {P : Nat → Proc} {S : Nat → Spot} {W : World} (h : Part w G m m P S W) : ProcsAt (some ⟨G, 0, none⟩) G 0 m P S W :=
  ⟨fun _ => rfl, fun _ => h.lt, fun i hi => by rw [Nat.zero_add, h.lo i hi, if_pos hi], fun i hi => by rw [Nat.zero_add, h.hi i hi, if_pos hi], fun i hi => by rw [Nat.zero_add, h.code i hi, if_pos hi], h.steps⟩

end Go.Proofs.Ytiehokibfdaleaa
