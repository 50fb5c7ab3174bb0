/- States as the laws of chapter 7 speak of them: ok, within, joined; plainly, no program in it but the contracts said anew. -/
import Derived.Test.YtiehokibfdaleaaAbsIn
import Derived.Test.YtiehokibfdaleaaAbsJoinI
namespace Go.Proofs.Ytiehokibfdaleaa
open Go.ChangeShapes Go.WideShapes Go.ChangeAt Go.RowKit
set_option linter.unusedVariables false

def okT (s : St) : Bool := absOk s.on s.n s.lo s.hi s.c s.d
def inT (s t : St) : Bool := absIn s.on s.n s.lo s.hi s.c s.d t.on t.n t.lo t.hi t.c t.d
def OkP (a b : Int) : Prop := -32768 ≤ a ∧ a ≤ b ∧ b ≤ 32767
theorem itvOk_iff {a b : Int} : itvOk a b = true ↔ OkP a b := by
  simp [itvOk, okB, OkP]
  omega
theorem allOk_iff {lo hi : Nat → Int} : allOk lo hi 4 = true ↔ ∀ k, k < 4 → OkP (lo k) (hi k) := by
  simp only [allOk, Bool.and_eq_true, itvOk_iff, true_and]
  constructor
  · rintro ⟨⟨⟨h0, h1⟩, h2⟩, h3⟩ k hk
    rcases (show k = 0 ∨ k = 1 ∨ k = 2 ∨ k = 3 by omega) with rfl | rfl | rfl | rfl <;> assumption
  · exact fun h => ⟨⟨⟨h 0 (by omega), h 1 (by omega)⟩, h 2 (by omega)⟩, h 3 (by omega)⟩
theorem okT_on {s : St} (h : s.on = true) : okT s = true ↔ s.n = 4 ∧ OkP s.c s.d ∧ ∀ k, k < 4 → OkP (s.lo k) (s.hi k) := by
  unfold okT absOk
  rw [h]
  simp only [Bool.and_eq_true, decide_eq_true_eq, itvOk_iff]
  constructor
  · rintro ⟨h1, h2, h3⟩
    rw [h1] at h3
    exact ⟨h1, h2, allOk_iff.1 h3⟩
  · rintro ⟨h1, h2, h3⟩
    refine ⟨h1, h2, ?_⟩
    rw [h1]
    exact allOk_iff.2 h3
theorem okT_off {s : St} (h : s.on = false) : okT s = true ↔ s.n = 0 ∧ s.c = 0 ∧ s.d = 0 := by
  unfold okT absOk
  rw [h]
  simp
theorem inTo_iff {lo hi lo' hi' : Nat → Int} : inTo lo hi lo' hi' 4 = true ↔ ∀ k, k < 4 → itvIn (lo k) (hi k) (lo' k) (hi' k) = true := by
  simp only [inTo, Bool.and_eq_true, true_and]
  constructor
  · rintro ⟨⟨⟨h0, h1⟩, h2⟩, h3⟩ k hk
    rcases (show k = 0 ∨ k = 1 ∨ k = 2 ∨ k = 3 by omega) with rfl | rfl | rfl | rfl <;> assumption
  · exact fun h => ⟨⟨⟨h 0 (by omega), h 1 (by omega)⟩, h 2 (by omega)⟩, h 3 (by omega)⟩
/-- What is within what, of states that are ok. -/
theorem inT_iff {s t : St} (hs : okT s = true) (ht : okT t = true) : inT s t = true ↔ (s.on = true → t.on = true ∧ (t.c ≤ s.c ∧ s.d ≤ t.d) ∧ ∀ k, k < 4 → t.lo k ≤ s.lo k ∧ s.hi k ≤ t.hi k) := by
  unfold inT absIn
  rw [show absOk s.on s.n s.lo s.hi s.c s.d = true from hs, show absOk t.on t.n t.lo t.hi t.c t.d = true from ht]
  simp only [Bool.true_and]
  cases h1 : s.on with
  | false => simp
  | true =>
    cases h2 : t.on with
    | false => simp
    | true =>
      obtain ⟨a1, a2, a3⟩ := (okT_on h1).1 hs
      obtain ⟨b1, b2, b3⟩ := (okT_on h2).1 ht
      simp only [Bool.and_eq_true, inTo_iff, itvIn, decide_eq_true_eq, itvOk_iff, true_implies, true_and]
      constructor
      · rintro ⟨⟨⟨_, h3⟩, h4⟩, h5⟩
        exact ⟨⟨h3, h4⟩, fun k hk => ⟨(h5 k hk).1.2, (h5 k hk).2⟩⟩
      · rintro ⟨⟨h3, h4⟩, h5⟩
        exact ⟨⟨⟨⟨a2, b2⟩, h3⟩, h4⟩, fun k hk => ⟨⟨⟨a3 k hk, b3 k hk⟩, (h5 k hk).1⟩, (h5 k hk).2⟩⟩
/-- What one of two ways of joining bounds makes of two states. -/
def mixS (f g : Int → Int → Int → Int → Int) (s t : St) : St :=
  { on := (okT s && okT t) && (s.on || t.on)
    n := onN ((okT s && okT t) && (s.on || t.on))
    lo := jF s.on t.on (arL s.on s.lo s.c) (arL t.on t.lo t.c) (fun k => f (arL s.on s.lo s.c k) (arL s.on s.hi s.d k) (arL t.on t.lo t.c k) (arL t.on t.hi t.d k))
    hi := jF s.on t.on (arL s.on s.hi s.d) (arL t.on t.hi t.d) (fun k => g (arL s.on s.lo s.c k) (arL s.on s.hi s.d k) (arL t.on t.lo t.c k) (arL t.on t.hi t.d k))
    c := onF ((okT s && okT t) && (s.on || t.on)) (jF s.on t.on (arL s.on s.lo s.c) (arL t.on t.lo t.c) (fun k => f (arL s.on s.lo s.c k) (arL s.on s.hi s.d k) (arL t.on t.lo t.c k) (arL t.on t.hi t.d k)) 4)
    d := onF ((okT s && okT t) && (s.on || t.on)) (jF s.on t.on (arL s.on s.hi s.d) (arL t.on t.hi t.d) (fun k => g (arL s.on s.lo s.c k) (arL s.on s.hi s.d k) (arL t.on t.lo t.c k) (arL t.on t.hi t.d k)) 4) }
/-- Two states are the same in all that is seen of them. -/
def SameS (s t : St) : Prop := s.on = t.on ∧ s.n = t.n ∧ s.c = t.c ∧ s.d = t.d ∧ ∀ k, k < s.n → s.lo k = t.lo k ∧ s.hi k = t.hi k
theorem mixS_bad {f g : Int → Int → Int → Int → Int} {s t : St} (h : (okT s && okT t) = false) : (mixS f g s t).on = false := by
  simp [mixS, h]
theorem mixS_le {f g : Int → Int → Int → Int → Int} {s t : St} : (mixS f g s t).n ≤ 4 := by
  unfold mixS onN
  dsimp only
  split <;> omega
theorem mixS_off {f g : Int → Int → Int → Int → Int} {s t : St} (h1 : okT s = true) (h2 : okT t = true) (h3 : s.on = false) (h4 : t.on = false) : (mixS f g s t).on = false ∧ (mixS f g s t).n = 0 ∧ (mixS f g s t).c = 0 ∧ (mixS f g s t).d = 0 := by
  simp [mixS, h1, h2, h3, h4, onN, onF]
theorem mixS_r {f g : Int → Int → Int → Int → Int} {s t : St} (h1 : okT s = true) (h2 : okT t = true) (h3 : s.on = false) (h4 : t.on = true) : (mixS f g s t).on = true ∧ (mixS f g s t).n = 4 ∧ (mixS f g s t).c = t.c ∧ (mixS f g s t).d = t.d ∧ ∀ k, k < 4 → (mixS f g s t).lo k = t.lo k ∧ (mixS f g s t).hi k = t.hi k := by
  refine ⟨by simp [mixS, h1, h2, h3, h4], by simp [mixS, h1, h2, h3, h4, onN], by simp [mixS, h1, h2, h3, h4, onF, jF, arL], by simp [mixS, h1, h2, h3, h4, onF, jF, arL], fun k hk => ⟨?_, ?_⟩⟩ <;> simp [mixS, h3, h4, jF, arL, hk]
theorem mixS_l {f g : Int → Int → Int → Int → Int} {s t : St} (h1 : okT s = true) (h2 : okT t = true) (h3 : s.on = true) (h4 : t.on = false) : (mixS f g s t).on = true ∧ (mixS f g s t).n = 4 ∧ (mixS f g s t).c = s.c ∧ (mixS f g s t).d = s.d ∧ ∀ k, k < 4 → (mixS f g s t).lo k = s.lo k ∧ (mixS f g s t).hi k = s.hi k := by
  refine ⟨by simp [mixS, h1, h2, h3, h4], by simp [mixS, h1, h2, h3, h4, onN], by simp [mixS, h1, h2, h3, h4, onF, jF, arL], by simp [mixS, h1, h2, h3, h4, onF, jF, arL], fun k hk => ⟨?_, ?_⟩⟩ <;> simp [mixS, h3, h4, jF, arL, hk]
theorem mixS_b {f g : Int → Int → Int → Int → Int} {s t : St} (h1 : okT s = true) (h2 : okT t = true) (h3 : s.on = true) (h4 : t.on = true) : (mixS f g s t).on = true ∧ (mixS f g s t).n = 4 ∧ (mixS f g s t).c = f s.c s.d t.c t.d ∧ (mixS f g s t).d = g s.c s.d t.c t.d ∧ ∀ k, k < 4 → (mixS f g s t).lo k = f (s.lo k) (s.hi k) (t.lo k) (t.hi k) ∧ (mixS f g s t).hi k = g (s.lo k) (s.hi k) (t.lo k) (t.hi k) := by
  refine ⟨by simp [mixS, h1, h2, h3, h4], by simp [mixS, h1, h2, h3, h4, onN], by simp [mixS, h1, h2, h3, h4, onF, jF, arL], by simp [mixS, h1, h2, h3, h4, onF, jF, arL], fun k hk => ⟨?_, ?_⟩⟩ <;> simp [mixS, h3, h4, jF, arL, hk]
/-- A way of joining bounds that has both. -/
def Grows (f g : Int → Int → Int → Int → Int) : Prop := ∀ a b c d, OkP a b → OkP c d → OkP (f a b c d) (g a b c d) ∧ f a b c d ≤ a ∧ f a b c d ≤ c ∧ b ≤ g a b c d ∧ d ≤ g a b c d
theorem mixS_ok {f g : Int → Int → Int → Int → Int} (hG : Grows f g) {s t : St} (h1 : okT s = true) (h2 : okT t = true) : okT (mixS f g s t) = true := by
  cases h3 : s.on <;> cases h4 : t.on
  · obtain ⟨e1, e2, e3, e4⟩ := mixS_off (f := f) (g := g) h1 h2 h3 h4
    exact (okT_off e1).2 ⟨e2, e3, e4⟩
  · obtain ⟨e1, e2, e3, e4, e5⟩ := mixS_r (f := f) (g := g) h1 h2 h3 h4
    obtain ⟨q1, q2, q3⟩ := (okT_on h4).1 h2
    exact (okT_on e1).2 ⟨e2, by rw [e3, e4]; exact q2, fun k hk => by rw [(e5 k hk).1, (e5 k hk).2]; exact q3 k hk⟩
  · obtain ⟨e1, e2, e3, e4, e5⟩ := mixS_l (f := f) (g := g) h1 h2 h3 h4
    obtain ⟨q1, q2, q3⟩ := (okT_on h3).1 h1
    exact (okT_on e1).2 ⟨e2, by rw [e3, e4]; exact q2, fun k hk => by rw [(e5 k hk).1, (e5 k hk).2]; exact q3 k hk⟩
  · obtain ⟨e1, e2, e3, e4, e5⟩ := mixS_b (f := f) (g := g) h1 h2 h3 h4
    obtain ⟨p1, p2, p3⟩ := (okT_on h3).1 h1
    obtain ⟨q1, q2, q3⟩ := (okT_on h4).1 h2
    exact (okT_on e1).2 ⟨e2, by rw [e3, e4]; exact (hG _ _ _ _ p2 q2).1, fun k hk => by rw [(e5 k hk).1, (e5 k hk).2]; exact (hG _ _ _ _ (p3 k hk) (q3 k hk)).1⟩
theorem mixS_has {f g : Int → Int → Int → Int → Int} (hG : Grows f g) {s t : St} (h1 : okT s = true) (h2 : okT t = true) : inT s (mixS f g s t) = true ∧ inT t (mixS f g s t) = true := by
  have h0 := mixS_ok hG h1 h2
  rw [inT_iff h1 h0, inT_iff h2 h0]
  cases h3 : s.on <;> cases h4 : t.on
  · exact ⟨fun h => by simp at h, fun h => by simp at h⟩
  · obtain ⟨e1, e2, e3, e4, e5⟩ := mixS_r (f := f) (g := g) h1 h2 h3 h4
    exact ⟨fun h => by simp at h, fun _ => ⟨e1, ⟨by omega, by omega⟩, fun k hk => ⟨by rw [(e5 k hk).1]; omega, by rw [(e5 k hk).2]; omega⟩⟩⟩
  · obtain ⟨e1, e2, e3, e4, e5⟩ := mixS_l (f := f) (g := g) h1 h2 h3 h4
    exact ⟨fun _ => ⟨e1, ⟨by omega, by omega⟩, fun k hk => ⟨by rw [(e5 k hk).1]; omega, by rw [(e5 k hk).2]; omega⟩⟩, fun h => by simp at h⟩
  · obtain ⟨e1, e2, e3, e4, e5⟩ := mixS_b (f := f) (g := g) h1 h2 h3 h4
    obtain ⟨p1, p2, p3⟩ := (okT_on h3).1 h1
    obtain ⟨q1, q2, q3⟩ := (okT_on h4).1 h2
    have hc := hG _ _ _ _ p2 q2
    have hk := fun k (hk : k < 4) => hG _ _ _ _ (p3 k hk) (q3 k hk)
    exact ⟨fun _ => ⟨e1, ⟨by omega, by omega⟩, fun k h => ⟨by rw [(e5 k h).1]; exact (hk k h).2.1, by rw [(e5 k h).2]; exact (hk k h).2.2.2.1⟩⟩, fun _ => ⟨e1, ⟨by omega, by omega⟩, fun k h => ⟨by rw [(e5 k h).1]; exact (hk k h).2.2.1, by rw [(e5 k h).2]; exact (hk k h).2.2.2.2⟩⟩⟩
theorem joinLo_of {a b c d : Int} (h1 : OkP a b) (h2 : OkP c d) : joinLo a b c d = min a c ∧ joinHi a b c d = max b d := by
  simp [joinLo, joinHi, two, itvOk_iff.2 h1, itvOk_iff.2 h2]
theorem join_grows : Grows joinLo joinHi := by
  intro a b c d h1 h2
  obtain ⟨e1, e2⟩ := joinLo_of h1 h2
  rw [e1, e2]
  unfold OkP at *
  omega
/-- The join hangs on no order. -/
theorem join_comm {s t : St} (h1 : okT s = true) (h2 : okT t = true) : SameS (mixS joinLo joinHi t s) (mixS joinLo joinHi s t) := by
  cases h3 : s.on <;> cases h4 : t.on
  · obtain ⟨e1, e2, e3, e4⟩ := mixS_off (f := joinLo) (g := joinHi) h1 h2 h3 h4
    obtain ⟨q1, q2, q3, q4⟩ := mixS_off (f := joinLo) (g := joinHi) h2 h1 h4 h3
    exact ⟨q1.trans e1.symm, q2.trans e2.symm, q3.trans e3.symm, q4.trans e4.symm, fun k hk => by omega⟩
  · obtain ⟨e1, e2, e3, e4, e5⟩ := mixS_r (f := joinLo) (g := joinHi) h1 h2 h3 h4
    obtain ⟨q1, q2, q3, q4, q5⟩ := mixS_l (f := joinLo) (g := joinHi) h2 h1 h4 h3
    exact ⟨q1.trans e1.symm, q2.trans e2.symm, q3.trans e3.symm, q4.trans e4.symm, fun k hk => ⟨by rw [(e5 k (by omega)).1, (q5 k (by omega)).1], by rw [(e5 k (by omega)).2, (q5 k (by omega)).2]⟩⟩
  · obtain ⟨e1, e2, e3, e4, e5⟩ := mixS_l (f := joinLo) (g := joinHi) h1 h2 h3 h4
    obtain ⟨q1, q2, q3, q4, q5⟩ := mixS_r (f := joinLo) (g := joinHi) h2 h1 h4 h3
    exact ⟨q1.trans e1.symm, q2.trans e2.symm, q3.trans e3.symm, q4.trans e4.symm, fun k hk => ⟨by rw [(e5 k (by omega)).1, (q5 k (by omega)).1], by rw [(e5 k (by omega)).2, (q5 k (by omega)).2]⟩⟩
  · obtain ⟨e1, e2, e3, e4, e5⟩ := mixS_b (f := joinLo) (g := joinHi) h1 h2 h3 h4
    obtain ⟨q1, q2, q3, q4, q5⟩ := mixS_b (f := joinLo) (g := joinHi) h2 h1 h4 h3
    obtain ⟨p1, p2, p3⟩ := (okT_on h3).1 h1
    obtain ⟨r1, r2, r3⟩ := (okT_on h4).1 h2
    have c1 := joinLo_of p2 r2
    have c2 := joinLo_of r2 p2
    refine ⟨q1.trans e1.symm, q2.trans e2.symm, by rw [q3, e3, c1.1, c2.1]; omega, by rw [q4, e4, c1.2, c2.2]; omega, fun k hk => ?_⟩
    have k4 : k < 4 := by omega
    have d1 := joinLo_of (p3 k k4) (r3 k k4)
    have d2 := joinLo_of (r3 k k4) (p3 k k4)
    rw [(e5 k k4).1, (q5 k k4).1, (e5 k k4).2, (q5 k k4).2, d1.1, d1.2, d2.1, d2.2]
    omega
/-- Whatever has both has the join. -/
theorem join_least {s t u : St} (h1 : okT s = true) (h2 : okT t = true) (h0 : okT u = true) (hs : inT s u = true) (ht : inT t u = true) : inT (mixS joinLo joinHi s t) u = true := by
  rw [inT_iff (mixS_ok join_grows h1 h2) h0]
  rw [inT_iff h1 h0] at hs
  rw [inT_iff h2 h0] at ht
  intro hon
  cases h3 : s.on <;> cases h4 : t.on
  · obtain ⟨e1, e2, e3, e4⟩ := mixS_off (f := joinLo) (g := joinHi) h1 h2 h3 h4
    rw [e1] at hon
    cases hon
  · obtain ⟨e1, e2, e3, e4, e5⟩ := mixS_r (f := joinLo) (g := joinHi) h1 h2 h3 h4
    obtain ⟨t1, t2, t3⟩ := ht h4
    exact ⟨t1, by rw [e3, e4]; exact t2, fun k hk => by rw [(e5 k hk).1, (e5 k hk).2]; exact t3 k hk⟩
  · obtain ⟨e1, e2, e3, e4, e5⟩ := mixS_l (f := joinLo) (g := joinHi) h1 h2 h3 h4
    obtain ⟨t1, t2, t3⟩ := hs h3
    exact ⟨t1, by rw [e3, e4]; exact t2, fun k hk => by rw [(e5 k hk).1, (e5 k hk).2]; exact t3 k hk⟩
  · obtain ⟨e1, e2, e3, e4, e5⟩ := mixS_b (f := joinLo) (g := joinHi) h1 h2 h3 h4
    obtain ⟨t1, t2, t3⟩ := hs h3
    obtain ⟨u1, u2, u3⟩ := ht h4
    obtain ⟨p1, p2, p3⟩ := (okT_on h3).1 h1
    obtain ⟨r1, r2, r3⟩ := (okT_on h4).1 h2
    have c1 := joinLo_of p2 r2
    refine ⟨t1, by rw [e3, e4, c1.1, c1.2]; omega, fun k hk => ?_⟩
    have d1 := joinLo_of (p3 k hk) (r3 k hk)
    have := t3 k hk
    have := u3 k hk
    rw [(e5 k hk).1, (e5 k hk).2, d1.1, d1.2]
    omega
end Go.Proofs.Ytiehokibfdaleaa
