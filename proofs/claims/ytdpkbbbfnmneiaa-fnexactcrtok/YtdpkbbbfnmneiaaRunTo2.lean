/- Runs copied, whole. -/
import Derived.Test.YtdpkbbbfnmneiaaRunTo
namespace Go.Proofs.Ytdpkbbbfnmneiaa
open Go.ChangeShapes Go.WideShapes Go.ChangeAt Go.RowKit

theorem FramesAt.set {a : Option Addr} {b off m : Nat} {F : Nat → Frm} {S : Nat → FSpot} {W : World} {G o : Nat} {vs : List Value} (h : FramesAt a b off m F S W) (hne : b ≠ G) (hs : ∀ i, i < m → (S i).v.b ≠ G ∧ (S i).c.b ≠ G) : FramesAt a b off m F S (setAll G o vs W) :=
  have k : ∀ q, (setAll G o vs W).cell? ⟨b, q, none⟩ = W.cell? ⟨b, q, none⟩ := fun q => setAll_other _ _ _ _ (fun j' _ e => hne (by injection e))
  ⟨h.at_, fun hm => Nat.lt_of_lt_of_le (h.lt hm) (setAll_below (B := 0) (w := W) (Nat.zero_le _) vs o W (Below.refl _ _)).size, fun i hi => (k _).trans (h.proc i hi), fun i hi => (k _).trans (h.pc i hi), fun i hi => (k _).trans (h.vars i hi), fun i hi => (k _).trans (h.cells i hi), fun i hi => (h.vs i hi).set (hs i hi).1, fun i hi => (h.cs i hi).set (hs i hi).2⟩
/-- A copy: each call's lists lie in blocks of their own, from their beginning on. -/
def FCopy (S : Nat → FSpot) (F : Nat → Frm) (m : Nat) : Prop := ∀ i, i < m → S i = ⟨⟨some ⟨(S i).v.b, 0, none⟩, (S i).v.b, 0, (F i).nv⟩, ⟨some ⟨(S i).c.b, 0, none⟩, (S i).c.b, 0, (F i).nc⟩⟩
/-- What lies in the copy's list when k calls are copied. -/
structure FPart (w : World) (G m k : Nat) (F : Nat → Frm) (S : Nat → FSpot) (W : World) : Prop where
  below : Below w.heap.size w W
  lt : G < W.heap.size
  proc : ∀ i, i < m → W.cell? ⟨G, i * 4, none⟩ = some (.int .i64 (if i < k then (F i).proc else 0))
  pc : ∀ i, i < m → W.cell? ⟨G, i * 4 + 1, none⟩ = some (.int .i64 (if i < k then (F i).pc else 0))
  vars : ∀ i, i < m → W.cell? ⟨G, i * 4 + 2, none⟩ = some (if i < k then .slice (S i).v.a (F i).nv (S i).v.cap else .slice none 0 0)
  cells : ∀ i, i < m → W.cell? ⟨G, i * 4 + 3, none⟩ = some (if i < k then .slice (S i).c.a (F i).nc (S i).c.cap else .slice none 0 0)
  free : ∀ i, W.frozen? ⟨G, i, none⟩ = false
  behind : ∀ i, i < k → G < (S i).v.b ∧ G < (S i).c.b
  vs : ∀ i, i < k → IntsAt (S i).v.a (S i).v.b (S i).v.off (F i).nv (F i).v W
  cs : ∀ i, i < k → IntsAt (S i).c.a (S i).c.b (S i).c.off (F i).nc (F i).c W
  copy : FCopy S F k
theorem FPart.next {w : World} {G m k : Nat} {F : Nat → Frm} {S : Nat → FSpot} {W W' : World} (h : FPart w G m k F S W) (hb : Below W.heap.size W W') : FPart w G m k F S W' :=
  have q : ∀ o, W'.cell? ⟨G, o, none⟩ = W.cell? ⟨G, o, none⟩ := fun o => hb.cell (p := ⟨G, o, none⟩) h.lt
  ⟨below_tr h.below hb, Nat.lt_of_lt_of_le h.lt hb.size, fun i hi => (q _).trans (h.proc i hi), fun i hi => (q _).trans (h.pc i hi), fun i hi => (q _).trans (h.vars i hi), fun i hi => (q _).trans (h.cells i hi), fun i => (hb.frozen (p := ⟨G, i, none⟩) h.lt).trans (h.free i), h.behind, fun i hi => (h.vs i hi).next hb, fun i hi => (h.cs i hi).next hb, h.copy⟩
set_option maxHeartbeats 2000000 in
/-- One call more. -/
theorem FPart.put {w : World} {G m k : Nat} {F : Nat → Frm} {S : Nat → FSpot} {W : World} {g g' : Nat} (hk : k < m) (hw : w.heap.size ≤ G) (h : FPart w G m k F S W) (hg : G < g) (hg' : G < g') (hC : IntsAt (some ⟨g, 0, none⟩) g 0 (F k).nv (F k).v W) (hC' : IntsAt (some ⟨g', 0, none⟩) g' 0 (F k).nc (F k).c W) :
    FPart w G m (k + 1) F (fun i => if i = k then ⟨⟨some ⟨g, 0, none⟩, g, 0, (F k).nv⟩, ⟨some ⟨g', 0, none⟩, g', 0, (F k).nc⟩⟩ else S i) (setAll G (k * 4) [.int .i64 (F k).proc, .int .i64 (F k).pc, .slice (some ⟨g, 0, none⟩) (F k).nv (F k).nv, .slice (some ⟨g', 0, none⟩) (F k).nc (F k).nc] W) := by
  have hsome : ∀ j, j < [(.int .i64 (F k).proc : Value), .int .i64 (F k).pc, .slice (some ⟨g, 0, none⟩) (F k).nv (F k).nv, .slice (some ⟨g', 0, none⟩) (F k).nc (F k).nc].length → (W.cell? ⟨G, k * 4 + j, none⟩).isSome = true := fun j hj => by
    rcases (show j = 0 ∨ j = 1 ∨ j = 2 ∨ j = 3 by simp at hj; omega) with rfl | rfl | rfl | rfl
    · rw [Nat.add_zero, h.proc k hk]; rfl
    · rw [h.pc k hk]; rfl
    · rw [h.vars k hk]; rfl
    · rw [h.cells k hk]; rfl
  have oth : ∀ i d, i ≠ k → d < 4 → (setAll G (k * 4) [.int .i64 (F k).proc, .int .i64 (F k).pc, .slice (some ⟨g, 0, none⟩) (F k).nv (F k).nv, .slice (some ⟨g', 0, none⟩) (F k).nc (F k).nc] W).cell? ⟨G, i * 4 + d, none⟩ = W.cell? ⟨G, i * 4 + d, none⟩ := fun i d hi hd => setAll_other _ _ _ _ (fun j hj e => by
    have hj' : j < 4 := by simpa using hj
    have : i * 4 + d = k * 4 + j := by injection e
    omega)
  refine ⟨setAll_below hw _ _ _ h.below, Nat.lt_of_lt_of_le h.lt (setAll_below (B := 0) (w := W) (Nat.zero_le _) _ _ W (Below.refl _ _)).size, fun i hi => ?_, fun i hi => ?_, fun i hi => ?_, fun i hi => ?_, fun i => (setAll_frozen _ _ _ _).trans (h.free i), fun i hi => ?_, fun i hi => ?_, fun i hi => ?_, fun i hi => ?_⟩
  · by_cases hik : i = k
    · subst hik
      rw [if_pos (by omega)]
      exact setAll_at _ (i * 4) W 0 _ hsome rfl
    · have := oth i 0 hik (by omega)
      rw [Nat.add_zero] at this
      rw [this, h.proc i hi]
      by_cases h1 : i < k
      · rw [if_pos h1, if_pos (by omega)]
      · rw [if_neg h1, if_neg (by omega)]
  · by_cases hik : i = k
    · subst hik
      rw [if_pos (by omega)]
      exact setAll_at _ (i * 4) W 1 _ hsome rfl
    · rw [oth i 1 hik (by omega), h.pc i hi]
      by_cases h1 : i < k
      · rw [if_pos h1, if_pos (by omega)]
      · rw [if_neg h1, if_neg (by omega)]
  · by_cases hik : i = k
    · subst hik
      rw [if_pos (by omega), if_pos rfl]
      exact setAll_at _ (i * 4) W 2 _ hsome rfl
    · rw [oth i 2 hik (by omega), h.vars i hi, if_neg hik]
      by_cases h1 : i < k
      · rw [if_pos h1, if_pos (by omega)]
      · rw [if_neg h1, if_neg (by omega)]
  · by_cases hik : i = k
    · subst hik
      rw [if_pos (by omega), if_pos rfl]
      exact setAll_at _ (i * 4) W 3 _ hsome rfl
    · rw [oth i 3 hik (by omega), h.cells i hi, if_neg hik]
      by_cases h1 : i < k
      · rw [if_pos h1, if_pos (by omega)]
      · rw [if_neg h1, if_neg (by omega)]
  · by_cases hik : i = k
    · rw [if_pos hik]; exact ⟨hg, hg'⟩
    · rw [if_neg hik]; exact h.behind i (by omega)
  · by_cases hik : i = k
    · subst hik
      rw [if_pos rfl]
      exact hC.set (by omega)
    · rw [if_neg hik]
      exact (h.vs i (by omega)).set (by have := (h.behind i (by omega)).1; omega)
  · by_cases hik : i = k
    · subst hik
      rw [if_pos rfl]
      exact hC'.set (by omega)
    · rw [if_neg hik]
      exact (h.cs i (by omega)).set (by have := (h.behind i (by omega)).2; omega)
  · by_cases hik : i = k
    · subst hik
      simp only [if_true]
    · simp only [hik, if_false]
      exact h.copy i (by omega)
theorem FPart.whole {w : World} {G m : Nat} {F : Nat → Frm} {S : Nat → FSpot} {W : World} (h : FPart w G m m F S W) : FramesAt (some ⟨G, 0, none⟩) G 0 m F S W :=
  ⟨fun _ => rfl, fun _ => h.lt, fun i hi => by rw [Nat.zero_add, h.proc i hi, if_pos hi], fun i hi => by rw [Nat.zero_add, h.pc i hi, if_pos hi], fun i hi => by rw [Nat.zero_add, h.vars i hi, if_pos hi], fun i hi => by rw [Nat.zero_add, h.cells i hi, if_pos hi], h.vs, h.cs⟩

end Go.Proofs.Ytdpkbbbfnmneiaa
