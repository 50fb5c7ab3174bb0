/- What a law holds that calls a function of two states and boxes its answer, in a region that draws its order; two lists marked one behind the other. -/
import Derived.Test.YtddcojeghdnhnaaDoorLawSt
import Derived.Test.YtddcojeghdnhnaaDoorRegNewL
namespace Go.Proofs.YtddcojeghdnhnaaDoor
open Go.ChangeShapes Go.WideShapes Go.ChangeAt Go.RowKit
set_option linter.unusedVariables false

set_option maxHeartbeats 2000000 in
theorem markAbsS (ad : Nat → Addr) (N B s : Nat) (on : Bool) (a : Option Addr) (g n cap : Nat) (c d k0 : Int) (w : World) (hk : k0 = (s : Int) + 1) (hN : N ≤ 100000000) (hs : s + n * 2 ≤ N) (hat : 0 < n → a = some ⟨g, 0, none⟩) (ha : ∀ j, j < n * 2 → ad (s + j) = ⟨g, j, none⟩) (hB : B ≤ w.heap.size) (hP : Pen ad N B w) (hM : Mk ad s w) :
    Calls Tryd.prog 9 #[.agg #[.bool on, .slice a n cap, .int .i64 c, .int .i64 d], .int .i64 k0] w fun e w' => e = .returned (.int .i64 ((s : Int) + n * 2 + 1)) ∧ Mk ad (s + n * 2) w' ∧ Pen ad N B w' ∧ Wrote ad N B w w' := by
  have b0 : Below w.heap.size w (w.alloc (.cells #[.bool on, .slice a n cap, .int .i64 c, .int .i64 d] 31)) := (Below.refl _ _).alloc (Nat.le_refl _) _
  have hP0 := hP.below b0
  have hM0 := hM.below hP (by omega) b0
  have hW0 : Wrote ad N B w (w.alloc (.cells #[.bool on, .slice a n cap, .int .i64 c, .int .i64 d] 31)) := Wrote.ofBelow b0 hB
  have key := fun W => markBndsP ad N B s n g cap a k0 W hk hN hs hat ha
  clear hk hN hs hat ha hP hM hB
  go_enter Tryd.func9, Tryd.ntmps9
  go_wp2_with fail
  refine (key _ hP0 hM0).mono ?_
  clear key hP0 hM0
  rintro e w1 ⟨rfl, hM1, hP1, hW⟩
  have hW2 := hW0.trans hW
  clear hW hW0 b0
  go_wp2_with fail
  go_ret
  exact ⟨ret_int (by omega), hM1, hP1, hW2⟩
/-- The cells of two lists, one behind the other. -/
def ad2 (x y m : Nat) : Nat → Addr := fun j => if j < m then ⟨x, j, none⟩ else ⟨y, j - m, none⟩
theorem pen2 {B n m x y : Nat} {lo hi lo' hi' : Nat → Int} {W : World} (hxy : x ≠ y) (h : BndsIs B n lo hi (some ⟨x, 0, none⟩) x W) (h' : BndsIs B m lo' hi' (some ⟨y, 0, none⟩) y W) : Pen (ad2 x y (n * 2)) (n * 2 + m * 2) B W := by
  have p := h.pen
  have q := h'.pen
  refine ⟨fun i j hi hj e => ?_, fun i hi => ?_, fun i hi => ?_, fun i hi => ?_⟩
  · unfold ad2 at e
    by_cases h1 : i < n * 2 <;> by_cases h2 : j < n * 2 <;> simp only [h1, h2, if_true, if_false, Addr.mk.injEq, and_true] at e <;> omega
  all_goals
    unfold ad2
    by_cases h1 : i < n * 2
    · simp only [h1, if_true]
      first | exact p.lo i h1 | exact p.there i h1 | exact p.free i h1
    · simp only [h1, if_false]
      first | exact q.lo (i - n * 2) (by omega) | exact q.there (i - n * 2) (by omega) | exact q.free (i - n * 2) (by omega)
theorem ad2_ne {x y m N : Nat} {p : Addr} (h1 : p.block ≠ x) (h2 : p.block ≠ y) (j : Nat) (_ : j < N) : p ≠ ad2 x y m j := by
  rintro rfl
  unfold ad2 at h1 h2
  by_cases h : j < m <;> simp [h] at h1 h2
theorem HeldL.kept2 {w : World} {L : List (Nat × List Value)} {W W' : World} {x y m N : Nat} (h : HeldL w L W) (t : Wrote (ad2 x y m) N w.heap.size W W') (hx : ∀ e ∈ L, e.1 ≠ x) (hy : ∀ e ∈ L, e.1 ≠ y) : HeldL w L W' :=
  ⟨h.below.trans t.below, fun e he => by
    obtain ⟨h1, h2, h3⟩ := h.cells e he
    exact ⟨h1, Nat.lt_of_lt_of_le h2 t.size, fun i v hv => (t.other ⟨e.1, i, none⟩ h2 (ad2_ne (hx e he) (hy e he))).trans (h3 i v hv)⟩,
    fun e he i => (t.free ⟨e.1, i, none⟩ (h.cells e he).2.1).trans (h.free e he i)⟩
theorem BndsIs.kept2 {B C n : Nat} {lo hi : Nat → Int} {a : Option Addr} {g : Nat} {W W' : World} {x y m N : Nat} (h : BndsIs B n lo hi a g W) (t : Wrote (ad2 x y m) N C W W') (hx : 0 < n → g ≠ x) (hy : 0 < n → g ≠ y) : BndsIs B n lo hi a g W' :=
  ⟨h.own, fun hn i => (t.free ⟨g, i, none⟩ (h.at_.lt hn)).trans (h.free hn i), h.at_.at_, fun hn => Nat.lt_of_lt_of_le (h.at_.lt hn) t.size,
    fun k hk => (t.other ⟨g, 0 + k * 2, none⟩ (h.at_.lt (by omega)) (ad2_ne (hx (by omega)) (hy (by omega)))).trans (h.at_.lo k hk),
    fun k hk => (t.other ⟨g, 0 + k * 2 + 1, none⟩ (h.at_.lt (by omega)) (ad2_ne (hx (by omega)) (hy (by omega)))).trans (h.at_.hi k hk)⟩
structure TwoS (w V : World) (Lb : List (Nat × List Value)) (A B : Value → World → Prop) (on : Bool) (n : Nat) (lo hi : Nat → Int) (c d : Int) (L : Nat → Bool) (vals : Nat → Value) (W : World) : Prop where
  hx : HX w V Lb W
  v1 : L 1 = true → L 6 = false → A (vals 1) W
  v3 : L 3 = true → L 6 = false → B (vals 3) W
  ans : L 4 = true → ∃ (a : Option Addr) (g cap : Nat), vals 4 = .agg #[.bool on, .slice a n cap, .int .i64 c, .int .i64 d] ∧ BndsIs V.heap.size n lo hi a g W ∧ (L 5 = true → 0 < n → vals 5 ≠ .pointer (some ⟨g, 0, none⟩))
  box : L 5 = true → ∃ b : Nat, vals 5 = .pointer (some ⟨b, 0, none⟩) ∧ V.heap.size ≤ b ∧ b < W.heap.size ∧ (∀ i, W.frozen? ⟨b, i, none⟩ = false) ∧ (∀ j, j < 4 → ∃ u, W.cell? ⟨b, j, none⟩ = some u) ∧ (L 6 = true → ∀ (a : Option Addr) (cap : Nat), vals 4 = .agg #[.bool on, .slice a n cap, .int .i64 c, .int .i64 d] → ∀ j v, [Value.bool on, .slice a n cap, .int .i64 c, .int .i64 d][j]? = some v → W.cell? ⟨b, j, none⟩ = some v)
  i6 : L 6 = true → L 4 = true ∧ L 5 = true
section
variable {w V : World} {Lb : List (Nat × List Value)} {A B : Value → World → Prop} {on : Bool} {n : Nat} {lo hi : Nat → Int} {c d : Int} {L : Nat → Bool} {vals : Nat → Value} {W W' : World}
theorem TwoS.size (h : TwoS w V Lb A B on n lo hi c d L vals W) : V.heap.size ≤ W.heap.size := h.hx.2.size
theorem TwoS.start (h : HeldL w Lb V) (vals : Nat → Value) : TwoS w V Lb A B on n lo hi c d (fun _ => false) vals V.drew :=
  ⟨⟨h.drew, (Below.refl _ V).drew⟩, (fun e => by cases e), (fun e => by cases e), (fun e => by cases e), (fun e => by cases e), (fun e => by cases e)⟩
theorem TwoS.next (hA : ∀ v {W W' : World}, A v W → Below W.heap.size W W' → A v W') (hB : ∀ v {W W' : World}, B v W → Below W.heap.size W W' → B v W') (h : TwoS w V Lb A B on n lo hi c d L vals W) (hb : Below W.heap.size W W') : TwoS w V Lb A B on n lo hi c d L vals W' :=
  ⟨HX.next hb h.hx, fun e e6 => hA _ (h.v1 e e6) hb, fun e e6 => hB _ (h.v3 e e6) hb, fun e => by
    obtain ⟨a, g, cap, k, h1, h2⟩ := h.ans e
    exact ⟨a, g, cap, k, h1.next hb, h2⟩, fun e => by
    obtain ⟨b, k1, k2, k3, k4, k5, k6⟩ := h.box e
    exact ⟨b, k1, k2, Nat.lt_of_lt_of_le k3 hb.size, fun i => (hb.frozen (p := ⟨b, i, none⟩) k3).trans (k4 i), fun j hj => by
      obtain ⟨u, hu⟩ := k5 j hj
      exact ⟨u, (hb.cell (p := ⟨b, j, none⟩) k3).trans hu⟩, fun e2 a cap q j v hv => (hb.cell (p := ⟨b, j, none⟩) k3).trans (k6 e2 a cap q j v hv)⟩, h.i6⟩
theorem TwoS.pure (h : TwoS w V Lb A B on n lo hi c d L vals W) {i : Nat} {v : Value} (h1 : 1 ≠ i) (h3 : 3 ≠ i) (h4 : 4 ≠ i) (h5 : 5 ≠ i) (h6 : 6 ≠ i) : TwoS w V Lb A B on n lo hi c d (upd L i true) (upd vals i v) W :=
  ⟨h.hx, fun e e6 => by rw [upd_other _ _ h1] at e ⊢; rw [upd_other _ _ h6] at e6; exact h.v1 e e6, fun e e6 => by rw [upd_other _ _ h3] at e ⊢; rw [upd_other _ _ h6] at e6; exact h.v3 e e6, fun e => by rw [upd_other _ _ h4] at e ⊢; rw [upd_other _ _ h5, upd_other _ _ h5]; exact h.ans e, fun e => by rw [upd_other _ _ h5] at e ⊢; rw [upd_other _ _ h6, upd_other _ _ h4]; exact h.box e, fun e => by rw [upd_other _ _ h6] at e; rw [upd_other _ _ h4, upd_other _ _ h5]; exact h.i6 e⟩
theorem TwoS.set1 (h : TwoS w V Lb A B on n lo hi c d L vals W) {v : Value} (hv : A v W) : TwoS w V Lb A B on n lo hi c d (upd L 1 true) (upd vals 1 v) W :=
  ⟨h.hx, fun _ _ => by rw [upd_same]; exact hv, fun e e6 => by rw [upd_other _ _ (by decide)] at e ⊢; rw [upd_other _ _ (by decide)] at e6; exact h.v3 e e6, fun e => by rw [upd_other _ _ (by decide)] at e ⊢; rw [upd_other _ _ (by decide), upd_other _ _ (by decide)]; exact h.ans e, fun e => by rw [upd_other _ _ (by decide)] at e ⊢; rw [upd_other _ _ (by decide), upd_other _ _ (by decide)]; exact h.box e, fun e => by rw [upd_other _ _ (by decide)] at e; rw [upd_other _ _ (by decide), upd_other _ _ (by decide)]; exact h.i6 e⟩
theorem TwoS.set3 (h : TwoS w V Lb A B on n lo hi c d L vals W) {v : Value} (hv : B v W) : TwoS w V Lb A B on n lo hi c d (upd L 3 true) (upd vals 3 v) W :=
  ⟨h.hx, fun e e6 => by rw [upd_other _ _ (by decide)] at e ⊢; rw [upd_other _ _ (by decide)] at e6; exact h.v1 e e6, fun _ _ => by rw [upd_same]; exact hv, fun e => by rw [upd_other _ _ (by decide)] at e ⊢; rw [upd_other _ _ (by decide), upd_other _ _ (by decide)]; exact h.ans e, fun e => by rw [upd_other _ _ (by decide)] at e ⊢; rw [upd_other _ _ (by decide), upd_other _ _ (by decide)]; exact h.box e, fun e => by rw [upd_other _ _ (by decide)] at e; rw [upd_other _ _ (by decide), upd_other _ _ (by decide)]; exact h.i6 e⟩
theorem TwoS.no6 (h : TwoS w V Lb A B on n lo hi c d L vals W) (hL : L 4 = false) : L 6 = false := by
  cases e : L 6
  · rfl
  · rw [(h.i6 e).1] at hL; cases hL
theorem TwoS.no65 (h : TwoS w V Lb A B on n lo hi c d L vals W) (hL : L 5 = false) : L 6 = false := by
  cases e : L 6
  · rfl
  · rw [(h.i6 e).2] at hL; cases hL
theorem TwoS.set4 (hA : ∀ v {W W' : World}, A v W → Below W.heap.size W W' → A v W') (hB : ∀ v {W W' : World}, B v W → Below W.heap.size W W' → B v W') (h : TwoS w V Lb A B on n lo hi c d L vals W) (hb : Below W.heap.size W W') (hL : L 4 = false) {v : Value} (hv : StIs W.heap.size on n lo hi c d v W') : TwoS w V Lb A B on n lo hi c d (upd L 4 true) (upd vals 4 v) W' := by
  have h' := h.next hA hB hb
  have h6 := h.no6 hL
  refine ⟨h'.hx, fun e e6 => by rw [upd_other _ _ (by decide)] at e ⊢; rw [upd_other _ _ (by decide)] at e6; exact h'.v1 e e6, fun e e6 => by rw [upd_other _ _ (by decide)] at e ⊢; rw [upd_other _ _ (by decide)] at e6; exact h'.v3 e e6, fun _ => ?_, fun e => ?_, fun e => by rw [upd_other _ _ (by decide), h6] at e; cases e⟩
  · obtain ⟨a, g, cap, k, h1⟩ := hv
    refine ⟨a, g, cap, by rw [upd_same]; exact k, h1.base h.size, fun e hn => ?_⟩
    rw [upd_other _ _ (by decide)] at e ⊢
    obtain ⟨b, k1, _, k3, _⟩ := h.box e
    rw [k1]
    intro q
    injection q with q
    injection q with q
    injection q with q
    have := h1.own hn
    omega
  · rw [upd_other _ _ (by decide)] at e
    rw [upd_other _ _ (by decide), upd_other _ _ (by decide)]
    obtain ⟨b, k1, k2, k3, k4, k5, _⟩ := h'.box e
    exact ⟨b, k1, k2, k3, k4, k5, fun e2 => by rw [h6] at e2; cases e2⟩
theorem TwoS.made (hA : ∀ v {W W' : World}, A v W → Below W.heap.size W W' → A v W') (hB : ∀ v {W W' : World}, B v W → Below W.heap.size W W' → B v W') (h : TwoS w V Lb A B on n lo hi c d L vals W) (hL5 : L 5 = false) {cs : Array Value} {t : TypeId} (hcs : cs.size = 4) : TwoS w V Lb A B on n lo hi c d (upd L 5 true) (upd vals 5 (.pointer (some ⟨W.heap.size, 0, none⟩))) (W.alloc (.cells cs t)) := by
  have h6 := h.no65 hL5
  have h' := h.next hA hB ((Below.refl W.heap.size W).alloc (Nat.le_refl _) (.cells cs t))
  refine ⟨h'.hx, fun e e6 => by rw [upd_other _ _ (by decide)] at e ⊢; rw [upd_other _ _ (by decide)] at e6; exact h'.v1 e e6, fun e e6 => by rw [upd_other _ _ (by decide)] at e ⊢; rw [upd_other _ _ (by decide)] at e6; exact h'.v3 e e6, fun e => ?_, fun _ => ?_, fun e => by rw [upd_other _ _ (by decide), h6] at e; cases e⟩
  · rw [upd_other _ _ (by decide)] at e
    rw [upd_other _ _ (by decide), upd_same, upd_same]
    obtain ⟨a, g, cap, k, h1, _⟩ := h'.ans e
    obtain ⟨a2, g2, cap2, k2, h12, _⟩ := h.ans e
    refine ⟨a2, g2, cap2, k2, h12.next ((Below.refl W.heap.size W).alloc (Nat.le_refl _) (.cells cs t)), fun _ hn q => ?_⟩
    injection q with q
    injection q with q
    injection q with q
    have := h12.at_.lt hn
    omega
  · rw [upd_same, upd_other _ _ (by decide), upd_other _ _ (by decide)]
    refine ⟨W.heap.size, rfl, h.size, by simp, fun i => World.frozen?_alloc_new _ _ _ _, fun j hj => ⟨cs[j]'(by omega), ?_⟩, fun e => by rw [h6] at e; cases e⟩
    unfold World.cell?
    rw [heap_alloc_new]
    simp [show j < cs.size by omega]
theorem TwoS.sto (h : TwoS w V Lb A B on n lo hi c d L vals W) (hw : Below w.heap.size w V) (hN1 : ∀ e ∈ Lb, e.1 < V.heap.size) (h5 : L 5 = true) (h4 : L 4 = true) {a : Option Addr} {cap b : Nat} (k4 : vals 4 = .agg #[.bool on, .slice a n cap, .int .i64 c, .int .i64 d]) (k5 : vals 5 = .pointer (some ⟨b, 0, none⟩)) {u : Value} : TwoS w V Lb A B on n lo hi c d (upd L 6 true) (upd vals 6 u) (setAll b 0 [.bool on, .slice a n cap, .int .i64 c, .int .i64 d] W) := by
  obtain ⟨b', kb, k2, k3, k4', k5', _⟩ := h.box h5
  rw [k5] at kb
  injection kb with kb
  injection kb with kb
  injection kb with kb
  subst kb
  have at4 : ∀ j v, [Value.bool on, .slice a n cap, .int .i64 c, .int .i64 d][j]? = some v → (setAll b 0 [.bool on, .slice a n cap, .int .i64 c, .int .i64 d] W).cell? ⟨b, j, none⟩ = some v := fun j v hv => by
    have := setAll_at (g := b) [.bool on, .slice a n cap, .int .i64 c, .int .i64 d] 0 W j v (fun q hq => by
      obtain ⟨u, hu⟩ := k5' q hq
      rw [Nat.zero_add, hu]; rfl) hv
    rwa [Nat.zero_add] at this
  refine ⟨HX.setAll hN1 hw.size (Nat.le_refl _) k2 _ _ h.hx, (fun _ e => by rw [upd_same] at e; cases e), (fun _ e => by rw [upd_same] at e; cases e), fun _ => ?_, fun _ => ?_, fun _ => ⟨by rw [upd_other _ _ (by decide)]; exact h4, by rw [upd_other _ _ (by decide)]; exact h5⟩⟩
  · obtain ⟨a', g, cap', q1, q2, q3⟩ := h.ans h4
    refine ⟨a', g, cap', by rw [upd_other _ _ (by decide)]; exact q1, ?_, fun _ hn => by rw [upd_other _ _ (by decide)]; exact q3 h5 hn⟩
    by_cases hn : 0 < n
    · exact ⟨q2.own, fun _ i => (setAll_frozen _ _ _ _).trans (q2.free hn i), q2.at_.set (fun e => q3 h5 hn (by rw [k5, e]))⟩
    · exact ⟨fun e => absurd e hn, fun e => absurd e hn, ⟨fun e => absurd e hn, fun e => absurd e hn, fun k hk => by omega, fun k hk => by omega⟩⟩
  · refine ⟨b, by rw [upd_other _ _ (by decide)]; exact k5, k2, Nat.lt_of_lt_of_le k3 (setAll_below (B := 0) (w := W) (Nat.zero_le _) _ 0 W (Below.refl _ _)).size, fun i => (setAll_frozen _ _ _ _).trans (k4' i), fun j hj => ⟨_, at4 j ([Value.bool on, .slice a n cap, .int .i64 c, .int .i64 d][j]'(by simpa using hj)) (by simp [hj])⟩, fun _ a2 cap2 q j v hv => ?_⟩
    rw [upd_other _ _ (by decide), k4] at q
    simp only [Value.agg.injEq, Array.mk.injEq, List.cons.injEq, Value.slice.injEq, true_and, and_true] at q
    obtain ⟨rfl, rfl⟩ := q
    exact at4 j v hv
end
end Go.Proofs.YtddcojeghdnhnaaDoor
