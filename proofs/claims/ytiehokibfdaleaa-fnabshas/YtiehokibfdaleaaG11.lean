/- A region that draws its order, by an invariant that also speaks of the values: for regions that make memory and store into it. A new block of two cells (NewB). No program in it. · A new block of any number of cells that a region makes and fills (NewL), for region_inv4. No program in it. · What an exact law holds: its boxes, and that nothing behind a certain world has turned. No program in it. -/
import Derived.Test.YtiehokibfdaleaaG1
import Derived.Test.YtiehokibfdaleaaG2
import Derived.Test.YtiehokibfdaleaaG8
import Derived.Test.YtiehokibfdaleaaG3
namespace Go.Proofs.Ytiehokibfdaleaa
open Go.RowKit

/-- THE RULE: φ: what is known of each value that is there; S: what is known of the world, by what is done and by the values. -/
theorem region_inv4 {P : Program} {ops : Array Oper} {Q : Exit → Act → World → Prop} {id : Nat} {a : Act} {w : World} (ds : List (Nat × Nat)) (φ : Nat → Value → Prop) (S : (Nat → Bool) → (Nat → Value) → World → Prop)
    (hm : P.follows .mixedOrders = true) (hdep : depsB ops = true) (hds : dsts ops = ds) (hk : decide ((ds.map (·.1)).Nodup) = true) (hd : decide ((ds.map (·.2)).Nodup) = true) (hlt : (ds.all fun e => decide (e.2 < a.tmps.size)) = true) (hS : ∀ v0, S (fun _ => false) v0 w.drew)
    (hop : ∀ i L vals w, i < ops.size → (∀ j, L j = true → φ j (vals j)) → S L vals w → L i = false → (∀ j ∈ deps ops i, L j = true) →
      wpAt P ops Q i (fun v w' => φ i v ∧ S (upd L i true) (upd vals i v) w') (frOf ds a vals) w)
    (hend : ∀ L vals w, (∀ j, j < ops.size → L j = true) → (∀ j, j < ops.size → φ j (vals j)) → S L vals w → Q .normal (frOf ds a vals) w) :
    (Code.region id ops true).wp P Q a w := by
  have hk' := of_decide_eq_true hk
  have hd' := of_decide_eq_true hd
  obtain ⟨v0, h0⟩ := frOf_self ds hk' a
  refine wp_region_any hm (wpAny_inv (fun L a' w => ∃ vals, a' = frOf ds a vals ∧ (∀ j, L j = true → φ j (vals j)) ∧ S L vals w) hdep ?_ ?_ _ _ _ _ (by simp) ?_ ?_)
  · rintro i L a' w hi ⟨vals, rfl, hφ, hS'⟩ hL hdp
    refine wpOp_mono ?_ (wpAt_op (fun d hd2 => ?_) hi (hop i L vals w hi hφ hS' hL hdp))
    · rintro a'' w' ⟨v, rfl, hv, hS2⟩
      refine ⟨upd vals i v, ?_, fun j hj => ?_, hS2⟩
      · cases hdst : (ops[i]?).bind (·.dst) with
        | some d =>
          refine frOf_put hk' hd' ?_ v a vals
          rw [← hds]
          unfold dsts
          rw [List.mem_filterMap]
          exact ⟨i, by simp [hi], by simp [hdst]⟩
        | none =>
          have h2 : ∀ e ∈ ds, e.1 ≠ i := by
            intro e he hh
            rw [← hds] at he
            unfold dsts at he
            rw [List.mem_filterMap] at he
            obtain ⟨k, _, hk2⟩ := he
            simp only [Option.map_eq_some_iff] at hk2
            obtain ⟨d, hd2, rfl⟩ := hk2
            simp only at hh
            subst hh
            rw [hdst] at hd2
            cases hd2
          rw [frOf_same h2]
          rfl
      · by_cases hji : j = i
        · subst hji
          rw [upd_same]; exact hv
        · rw [upd_other _ _ hji] at hj ⊢
          exact hφ j hj
    · rw [(frOf_size ds a vals).1]
      rw [List.all_eq_true] at hlt
      have hm' : (i, d) ∈ ds := by
        rw [← hds]
        unfold dsts
        rw [List.mem_filterMap]
        exact ⟨i, by simp [hi], by simp [hd2]⟩
      simpa using hlt (i, d) hm'
  · rintro L a' w ⟨vals, rfl, hφ, hS'⟩ hall
    exact hend L vals w hall (fun j hj => hφ j (hall j hj)) hS'
  · exact Nat.le_trans List.countP_le_length (by simp)
  · refine ⟨v0, h0, fun j hj => ?_, ?_⟩
    · exfalso
      unfold lis at hj
      by_cases h : j < ops.size <;> simp [h] at hj
    · have e : lis (Array.replicate ops.size false) = fun _ => false := by
        funext j
        unfold lis
        by_cases h : j < ops.size <;> simp [h]
      rw [e]; exact hS v0
/-- A block of two cells that the region makes (operation p, behind N) and fills (operation s). -/
def NewB (N : Nat) (x y : Value) (p s : Nat) (L : Nat → Bool) (vals : Nat → Value) (W : World) : Prop :=
  N ≤ W.heap.size ∧ (L s = true → L p = true) ∧ (L p = true → ∃ b, vals p = .pointer (some ⟨b, 0, none⟩) ∧ N ≤ b ∧ b < W.heap.size ∧ (∀ i, W.frozen? ⟨b, i, none⟩ = false) ∧ (∃ u v, W.cell? ⟨b, 0, none⟩ = some u ∧ W.cell? ⟨b, 1, none⟩ = some v) ∧ (L s = true → W.cell? ⟨b, 0, none⟩ = some x ∧ W.cell? ⟨b, 1, none⟩ = some y))
theorem NewB.start {N : Nat} {x y : Value} {p s : Nat} {vals : Nat → Value} {W : World} (hN : N ≤ W.heap.size) : NewB N x y p s (fun _ => false) vals W := ⟨hN, (fun h => by cases h), (fun h => by cases h)⟩
theorem NewB.next {N : Nat} {x y : Value} {p s : Nat} {L : Nat → Bool} {vals : Nat → Value} {W W' : World} (h : NewB N x y p s L vals W) (hb : Below W.heap.size W W') {i : Nat} {v : Value} (h1 : p ≠ i) (h2 : s ≠ i) : NewB N x y p s (upd L i true) (upd vals i v) W' := by
  refine ⟨Nat.le_trans h.1 hb.size, fun e => ?_, fun e => ?_⟩
  · rw [upd_other _ _ h1]; rw [upd_other _ _ h2] at e; exact h.2.1 e
  rw [upd_other _ _ h1] at e
  obtain ⟨b, k1, k2, k3, k4, ⟨u, t, k5, k6⟩, k7⟩ := h.2.2 e
  refine ⟨b, by rw [upd_other _ _ h1]; exact k1, k2, Nat.lt_of_lt_of_le k3 hb.size, fun i => (hb.frozen (p := ⟨b, i, none⟩) k3).trans (k4 i), ⟨u, t, (hb.cell (p := ⟨b, 0, none⟩) k3).trans k5, (hb.cell (p := ⟨b, 1, none⟩) k3).trans k6⟩, fun e2 => ?_⟩
  rw [upd_other _ _ h2] at e2
  exact ⟨(hb.cell (p := ⟨b, 0, none⟩) k3).trans (k7 e2).1, (hb.cell (p := ⟨b, 1, none⟩) k3).trans (k7 e2).2⟩
theorem NewB.pure {N : Nat} {x y : Value} {p s : Nat} {L : Nat → Bool} {vals : Nat → Value} {W : World} (h : NewB N x y p s L vals W) {i : Nat} {v : Value} (h1 : p ≠ i) (h2 : s ≠ i) : NewB N x y p s (upd L i true) (upd vals i v) W := h.next (Below.refl _ _) h1 h2
theorem NewB.made {N : Nat} {x y u v : Value} {t : TypeId} {p s : Nat} {L : Nat → Bool} {vals : Nat → Value} {W : World} (h : NewB N x y p s L vals W) (hp : L p = false) (hps : s ≠ p) : NewB N x y p s (upd L p true) (upd vals p (.pointer (some ⟨W.heap.size, 0, none⟩))) (W.alloc (.cells #[u, v] t)) := by
  refine ⟨Nat.le_trans h.1 (by simp), fun _ => upd_same _ _ _, fun _ => ?_⟩
  refine ⟨W.heap.size, upd_same _ _ _, h.1, by simp, fun i => by simp [go_sem], ⟨u, v, by simp [go_sem], by simp [go_sem]⟩, fun e => ?_⟩
  rw [upd_other _ _ hps] at e
  have := h.2.1 e
  rw [hp] at this
  cases this
theorem NewB.set {N : Nat} {x y : Value} {p s : Nat} {L : Nat → Bool} {vals : Nat → Value} {W : World} {b : Nat} (h : NewB N x y p s L vals W) (hL : L p = true) (hb : vals p = .pointer (some ⟨b, 0, none⟩)) {v : Value} (hps : p ≠ s) : NewB N x y p s (upd L s true) (upd vals s v) ((W.setCell ⟨b, 0, none⟩ x).setCell ⟨b, 1, none⟩ y) := by
  refine ⟨Nat.le_trans h.1 (by simp [World.setCell]), fun _ => by rw [upd_other _ _ hps]; exact hL, fun _ => ?_⟩
  obtain ⟨b', k1, k2, k3, k4, ⟨u, t, k5, k6⟩, _⟩ := h.2.2 hL
  rw [hb] at k1
  injection k1 with k1
  injection k1 with k1
  injection k1 with k1
  subst k1
  obtain ⟨e0, e1⟩ := own2 k5 k6
  have c0 : ((W.setCell ⟨b, 0, none⟩ x).setCell ⟨b, 1, none⟩ y).cell? ⟨b, 0, none⟩ = some x := by rw [World.cell?_setCell_other _ _ _ _ (by simp)]; exact e0 _
  exact ⟨b, by rw [upd_other _ _ hps]; exact hb, k2, by simpa [World.setCell] using k3, fun i => by rw [World.frozen?_setCell, World.frozen?_setCell]; exact k4 i, ⟨_, _, c0, e1 _ _⟩, fun _ => ⟨c0, e1 _ _⟩⟩
/-- What is held beside the new block. -/
theorem HeldL.setNew {w W : World} {Lb : List (Nat × List Value)} {N b : Nat} {x y : Value} (h : HeldL w Lb W) (hN : ∀ e ∈ Lb, e.1 < N) (hw : w.heap.size ≤ N) (hb : N ≤ b) : HeldL w Lb ((W.setCell ⟨b, 0, none⟩ x).setCell ⟨b, 1, none⟩ y) :=
  HeldL.setCell _ _ (by dsimp only; omega) (fun e he => by have := hN e he; dsimp only; omega) (HeldL.setCell _ _ (by dsimp only; omega) (fun e he => by have := hN e he; dsimp only; omega) h)
theorem HeldL.withNew {w W : World} {Lb : List (Nat × List Value)} {b : Nat} {x y : Value} (h : HeldL w Lb W) (hb : w.heap.size ≤ b) (h1 : b < W.heap.size) (h2 : ∀ i, W.frozen? ⟨b, i, none⟩ = false) (h3 : W.cell? ⟨b, 0, none⟩ = some x) (h4 : W.cell? ⟨b, 1, none⟩ = some y) : HeldL w ((b, [x, y]) :: Lb) W := by
  refine ⟨h.below, fun e he => ?_, fun e he i => ?_⟩
  · rcases List.mem_cons.1 he with rfl | he
    · refine ⟨hb, h1, fun i v hv => ?_⟩
      match i, hv with
      | 0, hv => simp at hv; subst hv; exact h3
      | 1, hv => simp at hv; subst hv; exact h4
      | n + 2, hv => simp at hv
    · exact h.cells e he
  · rcases List.mem_cons.1 he with rfl | he
    · exact h2 i
    · exact h.free e he i
/-- One cell of a block of two turned. -/
theorem HeldL.put0 {w W : World} {L : List (Nat × List Value)} {B : Nat} {u v x : Value} (hB : w.heap.size ≤ B) (hne : ∀ e ∈ L, e.1 ≠ B) (h : HeldL w ((B, [u, v]) :: L) W) : HeldL w ((B, [x, v]) :: L) (W.setCell ⟨B, 0, none⟩ x) := by
  have m := List.mem_cons_self (a := (B, [u, v])) (l := L)
  have hh := (h.sub (L' := L) (fun e he => List.mem_cons_of_mem _ he)).setCell ⟨B, 0, none⟩ x hB hne
  exact hh.withNew hB (by simpa [World.setCell] using h.size m) (fun i => by rw [World.frozen?_setCell]; exact h.free _ m i) (World.cell?_setCell_same _ _ _ (h.cell m (i := 0) rfl)) (by rw [World.cell?_setCell_other _ _ _ _ (by simp)]; exact h.cell m (i := 1) rfl)
theorem HeldL.put1 {w W : World} {L : List (Nat × List Value)} {B : Nat} {u v x : Value} (hB : w.heap.size ≤ B) (hne : ∀ e ∈ L, e.1 ≠ B) (h : HeldL w ((B, [u, v]) :: L) W) : HeldL w ((B, [u, x]) :: L) (W.setCell ⟨B, 1, none⟩ x) := by
  have m := List.mem_cons_self (a := (B, [u, v])) (l := L)
  have hh := (h.sub (L' := L) (fun e he => List.mem_cons_of_mem _ he)).setCell ⟨B, 1, none⟩ x hB hne
  exact hh.withNew hB (by simpa [World.setCell] using h.size m) (fun i => by rw [World.frozen?_setCell]; exact h.free _ m i) (by rw [World.cell?_setCell_other _ _ _ _ (by simp)]; exact h.cell m (i := 0) rfl) (World.cell?_setCell_same _ _ _ (h.cell m (i := 1) rfl))
end Go.Proofs.Ytiehokibfdaleaa
namespace Go.Proofs.Ytiehokibfdaleaa
open Go.RowKit

/-- A block that the region makes (operation p, behind N) and fills with vs (operation s). -/
def NewL (N : Nat) (vs : List Value) (p s : Nat) (L : Nat → Bool) (vals : Nat → Value) (W : World) : Prop :=
  N ≤ W.heap.size ∧ (L s = true → L p = true) ∧ (L p = true → ∃ b, vals p = .pointer (some ⟨b, 0, none⟩) ∧ N ≤ b ∧ b < W.heap.size ∧ (∀ i, W.frozen? ⟨b, i, none⟩ = false) ∧ (∀ j, j < vs.length → ∃ u, W.cell? ⟨b, j, none⟩ = some u) ∧ (L s = true → ∀ j v, vs[j]? = some v → W.cell? ⟨b, j, none⟩ = some v))
theorem NewL.start {N : Nat} {vs : List Value} {p s : Nat} {vals : Nat → Value} {W : World} (hN : N ≤ W.heap.size) : NewL N vs p s (fun _ => false) vals W := ⟨hN, (fun h => by cases h), (fun h => by cases h)⟩
theorem NewL.next {N : Nat} {vs : List Value} {p s : Nat} {L : Nat → Bool} {vals : Nat → Value} {W W' : World} (h : NewL N vs p s L vals W) (hb : Below W.heap.size W W') {i : Nat} {v : Value} (h1 : p ≠ i) (h2 : s ≠ i) : NewL N vs p s (upd L i true) (upd vals i v) W' := by
  refine ⟨Nat.le_trans h.1 hb.size, fun e => ?_, fun e => ?_⟩
  · rw [upd_other _ _ h1]; rw [upd_other _ _ h2] at e; exact h.2.1 e
  rw [upd_other _ _ h1] at e
  obtain ⟨b, k1, k2, k3, k4, k5, k7⟩ := h.2.2 e
  refine ⟨b, by rw [upd_other _ _ h1]; exact k1, k2, Nat.lt_of_lt_of_le k3 hb.size, fun i => (hb.frozen (p := ⟨b, i, none⟩) k3).trans (k4 i), fun j hj => ?_, fun e2 j v hv => ?_⟩
  · obtain ⟨u, hu⟩ := k5 j hj
    exact ⟨u, (hb.cell (p := ⟨b, j, none⟩) k3).trans hu⟩
  · rw [upd_other _ _ h2] at e2
    exact (hb.cell (p := ⟨b, j, none⟩) k3).trans (k7 e2 j v hv)
theorem NewL.pure {N : Nat} {vs : List Value} {p s : Nat} {L : Nat → Bool} {vals : Nat → Value} {W : World} (h : NewL N vs p s L vals W) {i : Nat} {v : Value} (h1 : p ≠ i) (h2 : s ≠ i) : NewL N vs p s (upd L i true) (upd vals i v) W := h.next (Below.refl _ _) h1 h2
theorem NewL.made {N : Nat} {vs : List Value} {cs : Array Value} {t : TypeId} {p s : Nat} {L : Nat → Bool} {vals : Nat → Value} {W : World} (h : NewL N vs p s L vals W) (hp : L p = false) (hps : s ≠ p) (hl : vs.length = cs.size) : NewL N vs p s (upd L p true) (upd vals p (.pointer (some ⟨W.heap.size, 0, none⟩))) (W.alloc (.cells cs t)) := by
  refine ⟨Nat.le_trans h.1 (by simp), fun _ => upd_same _ _ _, fun _ => ?_⟩
  refine ⟨W.heap.size, upd_same _ _ _, h.1, by simp, fun i => World.frozen?_alloc_new _ _ _ _, fun j hj => ⟨cs[j]'(by omega), ?_⟩, fun e => ?_⟩
  · unfold World.cell?
    rw [heap_alloc_new]
    simp [show j < cs.size by omega]
  · rw [upd_other _ _ hps] at e
    have := h.2.1 e
    rw [hp] at this
    cases this
theorem NewL.set {N : Nat} {vs : List Value} {p s : Nat} {L : Nat → Bool} {vals : Nat → Value} {W : World} {b : Nat} (h : NewL N vs p s L vals W) (hL : L p = true) (hb : vals p = .pointer (some ⟨b, 0, none⟩)) {v : Value} (hps : p ≠ s) : NewL N vs p s (upd L s true) (upd vals s v) (setAll b 0 vs W) := by
  have sz : W.heap.size ≤ (setAll b 0 vs W).heap.size := (setAll_below (B := 0) (w := W) (Nat.zero_le _) vs 0 W (Below.refl _ _)).size
  refine ⟨Nat.le_trans h.1 sz, fun _ => by rw [upd_other _ _ hps]; exact hL, fun _ => ?_⟩
  obtain ⟨b', k1, k2, k3, k4, k5, _⟩ := h.2.2 hL
  rw [hb] at k1
  injection k1 with k1
  injection k1 with k1
  injection k1 with k1
  subst k1
  have key : ∀ j v, vs[j]? = some v → (setAll b 0 vs W).cell? ⟨b, j, none⟩ = some v := fun j v hv => by
    have := setAll_at vs 0 W j v (fun i hi => by rw [Nat.zero_add]; obtain ⟨u, hu⟩ := k5 i hi; rw [hu]; rfl) hv
    rwa [Nat.zero_add] at this
  exact ⟨b, by rw [upd_other _ _ hps]; exact hb, k2, Nat.lt_of_lt_of_le k3 sz, fun i => (setAll_frozen _ _ _ _).trans (k4 i), fun j hj => ⟨vs[j], key j _ (List.getElem?_eq_getElem hj)⟩, fun _ => key⟩
theorem HeldL.setAll {w W : World} {Lb : List (Nat × List Value)} {N b : Nat} (hN : ∀ e ∈ Lb, e.1 < N) (hw : w.heap.size ≤ N) (hb : N ≤ b) : ∀ (vs : List Value) (o : Nat) {W : World}, HeldL w Lb W → HeldL w Lb (setAll b o vs W)
  | [], _, _, h => h
  | _ :: vs, o, _, h => HeldL.setAll (W := W) hN hw hb vs (o + 1) (HeldL.setCell _ _ (by dsimp only; omega) (fun e he => by have := hN e he; dsimp only; omega) h)
theorem HeldL.withNewL {w W : World} {Lb : List (Nat × List Value)} {b : Nat} {vs : List Value} (h : HeldL w Lb W) (hb : w.heap.size ≤ b) (h1 : b < W.heap.size) (h2 : ∀ i, W.frozen? ⟨b, i, none⟩ = false) (h3 : ∀ j v, vs[j]? = some v → W.cell? ⟨b, j, none⟩ = some v) : HeldL w ((b, vs) :: Lb) W := by
  refine ⟨h.below, fun e he => ?_, fun e he i => ?_⟩
  · rcases List.mem_cons.1 he with rfl | he
    · exact ⟨hb, h1, h3⟩
    · exact h.cells e he
  · rcases List.mem_cons.1 he with rfl | he
    · exact h2 i
    · exact h.free e he i
end Go.Proofs.Ytiehokibfdaleaa
namespace Go.Proofs.Ytiehokibfdaleaa
open Go.ChangeShapes Go.WideShapes Go.ChangeAt Go.RowKit

def TX (_ : Nat) (W W' : World) : Prop := Below W.heap.size W W'
/-- What is held, and that nothing older than V has turned. -/
def HX (w V : World) (L : List (Nat × List Value)) (W : World) : Prop := HeldL w L W ∧ Below V.heap.size V W
theorem HX.next {w V : World} {L : List (Nat × List Value)} {W W' : World} (hb : Below W.heap.size W W') (h : HX w V L W) : HX w V L W' := ⟨h.1.next hb, below_tr h.2 hb⟩
theorem HX.cell {w V : World} {L : List (Nat × List Value)} {W : World} (h : HX w V L W) {e : Nat × List Value} (he : e ∈ L) {i : Nat} {v : Value} (hv : e.2[i]? = some v) : W.cell? ⟨e.1, i, none⟩ = some v := h.1.cell he hv
theorem HX.below {w V : World} {L : List (Nat × List Value)} {W : World} (h : HX w V L W) : Below w.heap.size w W := h.1.below
theorem HX.beh {w V : World} {L : List (Nat × List Value)} {W : World} (h : HX w V L W) : Below V.heap.size V W := h.2
theorem HX.drew {w V : World} {L : List (Nat × List Value)} {W : World} (h : HX w V L W) : HX w V L W.drew := h.next (Below.refl _ W).drew
theorem HX.alloc {w V : World} {L : List (Nat × List Value)} {W : World} (o : Obj) (h : HX w V L W) : HX w V L (W.alloc o) := h.next ((Below.refl _ _).alloc (Nat.le_refl _) o)
theorem HX.setAll {w V : World} {Lb : List (Nat × List Value)} {N b : Nat} (hN : ∀ e ∈ Lb, e.1 < N) (hw : w.heap.size ≤ N) (hV : V.heap.size ≤ N) (hb : N ≤ b) (vs : List Value) (o : Nat) {W : World} (h : HX w V Lb W) : HX w V Lb (setAll b o vs W) :=
  ⟨HeldL.setAll (W := W) hN hw hb vs o h.1, setAll_below (Nat.le_trans hV hb) vs o W h.2⟩
/-- A copy that a region makes (operation j) and a call of it uses (operation k): it is there between the two. -/
def Cp (j k : Nat) (V : Value → World → Prop) (L : Nat → Bool) (vals : Nat → Value) (W : World) : Prop := L j = true → L k = false → V (vals j) W
theorem Cp.start {j k : Nat} {V : Value → World → Prop} {vals : Nat → Value} {W : World} : Cp j k V (fun _ => false) vals W := fun e => by cases e
theorem Cp.keep {j k : Nat} {V : Value → World → Prop} {L : Nat → Bool} {vals : Nat → Value} {W W' : World} (h : Cp j k V L vals W) (hV : ∀ v, V v W → V v W') {i : Nat} {v : Value} (h1 : j ≠ i) (h2 : k ≠ i) : Cp j k V (upd L i true) (upd vals i v) W' := by
  intro e1 e2
  rw [upd_other _ _ h1] at e1 ⊢
  rw [upd_other _ _ h2] at e2
  exact hV _ (h e1 e2)
theorem Cp.put {j k : Nat} {V : Value → World → Prop} {L : Nat → Bool} {vals : Nat → Value} {W : World} {v : Value} (h : V v W) : Cp j k V (upd L j true) (upd vals j v) W := by
  intro _ _
  rw [upd_same]; exact h
theorem Cp.done {j k : Nat} {V : Value → World → Prop} {L : Nat → Bool} {vals : Nat → Value} {W : World} {v : Value} : Cp j k V (upd L k true) (upd vals k v) W := by
  intro _ e
  rw [upd_same] at e; cases e
theorem Cp.past {j k : Nat} {V : Value → World → Prop} {L : Nat → Bool} {vals : Nat → Value} {W : World} {i : Nat} {v : Value} (hk : L k = true) (h2 : k ≠ i) : Cp j k V (upd L i true) (upd vals i v) W := by
  intro _ e
  rw [upd_other _ _ h2, hk] at e; cases e
end Go.Proofs.Ytiehokibfdaleaa
