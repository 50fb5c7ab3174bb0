/- States as the laws of chapter 7 speak of them: ok, within, joined; plainly, no program in it but the contracts said anew. · Joined states, by what is answered: the program's AbsJoin said by mixS. A state that was answered, as a value in a region. · Two states that are the same are held to be so by laws.owState. · Grown states, by what is answered: the contracts of AbsWide said by mixS; what grows has both, and rests. -/
import Derived.Test.YtiehokibfdaleaaDoorG13
import Derived.Test.YtiehokibfdaleaaDoorG16
import Derived.Test.YtiehokibfdaleaaDoorG11
import Derived.Test.YtiehokibfdaleaaDoorG8
import Derived.Deep.QuietTactic
import Derived.Test.YtiehokibfdaleaaDoorG18
import Derived.Test.YtiehokibfdaleaaDoorG20
namespace Go.Proofs.YtiehokibfdaleaaDoor
open Go.ChangeShapes Go.WideShapes Go.ChangeAt Go.RowKit
set_option linter.unusedVariables false

def okT (s : St) : Bool := absOk s.on s.n s.lo s.hi s.c s.d
def inT (s t : St) : Bool := absIn s.on s.n s.lo s.hi s.c s.d t.on t.n t.lo t.hi t.c t.d
def OkP (a b : Int) : Prop := -32768 ≤ a ∧ a ≤ b ∧ b ≤ 32767
theorem itvOk_iff {a b : Int} : itvOk a b = true ↔ OkP a b := by
  simp [itvOk, okB, OkP]
  omega
theorem allOk_iff {lo hi : Nat → Int} : allOk lo hi 4 = true ↔ ∀ k, k < 4 → OkP (lo k) (hi k) := by
  simp only [allOk, Bool.and_eq_true, itvOk_iff, true_and]
  constructor
  · rintro ⟨⟨⟨h0, h1⟩, h2⟩, h3⟩ k hk
    rcases (show k = 0 ∨ k = 1 ∨ k = 2 ∨ k = 3 by omega) with rfl | rfl | rfl | rfl <;> assumption
  · exact fun h => ⟨⟨⟨h 0 (by omega), h 1 (by omega)⟩, h 2 (by omega)⟩, h 3 (by omega)⟩
theorem okT_on {s : St} (h : s.on = true) : okT s = true ↔ s.n = 4 ∧ OkP s.c s.d ∧ ∀ k, k < 4 → OkP (s.lo k) (s.hi k) := by
  unfold okT absOk
  rw [h]
  simp only [Bool.and_eq_true, decide_eq_true_eq, itvOk_iff]
  constructor
  · rintro ⟨h1, h2, h3⟩
    rw [h1] at h3
    exact ⟨h1, h2, allOk_iff.1 h3⟩
  · rintro ⟨h1, h2, h3⟩
    refine ⟨h1, h2, ?_⟩
    rw [h1]
    exact allOk_iff.2 h3
theorem okT_off {s : St} (h : s.on = false) : okT s = true ↔ s.n = 0 ∧ s.c = 0 ∧ s.d = 0 := by
  unfold okT absOk
  rw [h]
  simp
theorem inTo_iff {lo hi lo' hi' : Nat → Int} : inTo lo hi lo' hi' 4 = true ↔ ∀ k, k < 4 → itvIn (lo k) (hi k) (lo' k) (hi' k) = true := by
  simp only [inTo, Bool.and_eq_true, true_and]
  constructor
  · rintro ⟨⟨⟨h0, h1⟩, h2⟩, h3⟩ k hk
    rcases (show k = 0 ∨ k = 1 ∨ k = 2 ∨ k = 3 by omega) with rfl | rfl | rfl | rfl <;> assumption
  · exact fun h => ⟨⟨⟨h 0 (by omega), h 1 (by omega)⟩, h 2 (by omega)⟩, h 3 (by omega)⟩
/-- What is within what, of states that are ok. -/
theorem inT_iff {s t : St} (hs : okT s = true) (ht : okT t = true) : inT s t = true ↔ (s.on = true → t.on = true ∧ (t.c ≤ s.c ∧ s.d ≤ t.d) ∧ ∀ k, k < 4 → t.lo k ≤ s.lo k ∧ s.hi k ≤ t.hi k) := by
  unfold inT absIn
  rw [show absOk s.on s.n s.lo s.hi s.c s.d = true from hs, show absOk t.on t.n t.lo t.hi t.c t.d = true from ht]
  simp only [Bool.true_and]
  cases h1 : s.on with
  | false => simp
  | true =>
    cases h2 : t.on with
    | false => simp
    | true =>
      obtain ⟨a1, a2, a3⟩ := (okT_on h1).1 hs
      obtain ⟨b1, b2, b3⟩ := (okT_on h2).1 ht
      simp only [Bool.and_eq_true, inTo_iff, itvIn, decide_eq_true_eq, itvOk_iff, true_implies, true_and]
      constructor
      · rintro ⟨⟨⟨_, h3⟩, h4⟩, h5⟩
        exact ⟨⟨h3, h4⟩, fun k hk => ⟨(h5 k hk).1.2, (h5 k hk).2⟩⟩
      · rintro ⟨⟨h3, h4⟩, h5⟩
        exact ⟨⟨⟨⟨a2, b2⟩, h3⟩, h4⟩, fun k hk => ⟨⟨⟨a3 k hk, b3 k hk⟩, (h5 k hk).1⟩, (h5 k hk).2⟩⟩
/-- What one of two ways of joining bounds makes of two states. -/
def mixS (f g : Int → Int → Int → Int → Int) (s t : St) : St :=
  { on := (okT s && okT t) && (s.on || t.on)
    n := onN ((okT s && okT t) && (s.on || t.on))
    lo := jF s.on t.on (arL s.on s.lo s.c) (arL t.on t.lo t.c) (fun k => f (arL s.on s.lo s.c k) (arL s.on s.hi s.d k) (arL t.on t.lo t.c k) (arL t.on t.hi t.d k))
    hi := jF s.on t.on (arL s.on s.hi s.d) (arL t.on t.hi t.d) (fun k => g (arL s.on s.lo s.c k) (arL s.on s.hi s.d k) (arL t.on t.lo t.c k) (arL t.on t.hi t.d k))
    c := onF ((okT s && okT t) && (s.on || t.on)) (jF s.on t.on (arL s.on s.lo s.c) (arL t.on t.lo t.c) (fun k => f (arL s.on s.lo s.c k) (arL s.on s.hi s.d k) (arL t.on t.lo t.c k) (arL t.on t.hi t.d k)) 4)
    d := onF ((okT s && okT t) && (s.on || t.on)) (jF s.on t.on (arL s.on s.hi s.d) (arL t.on t.hi t.d) (fun k => g (arL s.on s.lo s.c k) (arL s.on s.hi s.d k) (arL t.on t.lo t.c k) (arL t.on t.hi t.d k)) 4) }
/-- Two states are the same in all that is seen of them. -/
def SameS (s t : St) : Prop := s.on = t.on ∧ s.n = t.n ∧ s.c = t.c ∧ s.d = t.d ∧ ∀ k, k < s.n → s.lo k = t.lo k ∧ s.hi k = t.hi k
theorem mixS_bad {f g : Int → Int → Int → Int → Int} {s t : St} (h : (okT s && okT t) = false) : (mixS f g s t).on = false := by
  simp [mixS, h]
theorem mixS_le {f g : Int → Int → Int → Int → Int} {s t : St} : (mixS f g s t).n ≤ 4 := by
  unfold mixS onN
  dsimp only
  split <;> omega
theorem mixS_off {f g : Int → Int → Int → Int → Int} {s t : St} (h1 : okT s = true) (h2 : okT t = true) (h3 : s.on = false) (h4 : t.on = false) : (mixS f g s t).on = false ∧ (mixS f g s t).n = 0 ∧ (mixS f g s t).c = 0 ∧ (mixS f g s t).d = 0 := by
  simp [mixS, h1, h2, h3, h4, onN, onF]
theorem mixS_r {f g : Int → Int → Int → Int → Int} {s t : St} (h1 : okT s = true) (h2 : okT t = true) (h3 : s.on = false) (h4 : t.on = true) : (mixS f g s t).on = true ∧ (mixS f g s t).n = 4 ∧ (mixS f g s t).c = t.c ∧ (mixS f g s t).d = t.d ∧ ∀ k, k < 4 → (mixS f g s t).lo k = t.lo k ∧ (mixS f g s t).hi k = t.hi k := by
  refine ⟨by simp [mixS, h1, h2, h3, h4], by simp [mixS, h1, h2, h3, h4, onN], by simp [mixS, h1, h2, h3, h4, onF, jF, arL], by simp [mixS, h1, h2, h3, h4, onF, jF, arL], fun k hk => ⟨?_, ?_⟩⟩ <;> simp [mixS, h3, h4, jF, arL, hk]
theorem mixS_l {f g : Int → Int → Int → Int → Int} {s t : St} (h1 : okT s = true) (h2 : okT t = true) (h3 : s.on = true) (h4 : t.on = false) : (mixS f g s t).on = true ∧ (mixS f g s t).n = 4 ∧ (mixS f g s t).c = s.c ∧ (mixS f g s t).d = s.d ∧ ∀ k, k < 4 → (mixS f g s t).lo k = s.lo k ∧ (mixS f g s t).hi k = s.hi k := by
  refine ⟨by simp [mixS, h1, h2, h3, h4], by simp [mixS, h1, h2, h3, h4, onN], by simp [mixS, h1, h2, h3, h4, onF, jF, arL], by simp [mixS, h1, h2, h3, h4, onF, jF, arL], fun k hk => ⟨?_, ?_⟩⟩ <;> simp [mixS, h3, h4, jF, arL, hk]
theorem mixS_b {f g : Int → Int → Int → Int → Int} {s t : St} (h1 : okT s = true) (h2 : okT t = true) (h3 : s.on = true) (h4 : t.on = true) : (mixS f g s t).on = true ∧ (mixS f g s t).n = 4 ∧ (mixS f g s t).c = f s.c s.d t.c t.d ∧ (mixS f g s t).d = g s.c s.d t.c t.d ∧ ∀ k, k < 4 → (mixS f g s t).lo k = f (s.lo k) (s.hi k) (t.lo k) (t.hi k) ∧ (mixS f g s t).hi k = g (s.lo k) (s.hi k) (t.lo k) (t.hi k) := by
  refine ⟨by simp [mixS, h1, h2, h3, h4], by simp [mixS, h1, h2, h3, h4, onN], by simp [mixS, h1, h2, h3, h4, onF, jF, arL], by simp [mixS, h1, h2, h3, h4, onF, jF, arL], fun k hk => ⟨?_, ?_⟩⟩ <;> simp [mixS, h3, h4, jF, arL, hk]
/-- A way of joining bounds that has both. -/
def Grows (f g : Int → Int → Int → Int → Int) : Prop := ∀ a b c d, OkP a b → OkP c d → OkP (f a b c d) (g a b c d) ∧ f a b c d ≤ a ∧ f a b c d ≤ c ∧ b ≤ g a b c d ∧ d ≤ g a b c d
theorem mixS_ok {f g : Int → Int → Int → Int → Int} (hG : Grows f g) {s t : St} (h1 : okT s = true) (h2 : okT t = true) : okT (mixS f g s t) = true := by
  cases h3 : s.on <;> cases h4 : t.on
  · obtain ⟨e1, e2, e3, e4⟩ := mixS_off (f := f) (g := g) h1 h2 h3 h4
    exact (okT_off e1).2 ⟨e2, e3, e4⟩
  · obtain ⟨e1, e2, e3, e4, e5⟩ := mixS_r (f := f) (g := g) h1 h2 h3 h4
    obtain ⟨q1, q2, q3⟩ := (okT_on h4).1 h2
    exact (okT_on e1).2 ⟨e2, by rw [e3, e4]; exact q2, fun k hk => by rw [(e5 k hk).1, (e5 k hk).2]; exact q3 k hk⟩
  · obtain ⟨e1, e2, e3, e4, e5⟩ := mixS_l (f := f) (g := g) h1 h2 h3 h4
    obtain ⟨q1, q2, q3⟩ := (okT_on h3).1 h1
    exact (okT_on e1).2 ⟨e2, by rw [e3, e4]; exact q2, fun k hk => by rw [(e5 k hk).1, (e5 k hk).2]; exact q3 k hk⟩
  · obtain ⟨e1, e2, e3, e4, e5⟩ := mixS_b (f := f) (g := g) h1 h2 h3 h4
    obtain ⟨p1, p2, p3⟩ := (okT_on h3).1 h1
    obtain ⟨q1, q2, q3⟩ := (okT_on h4).1 h2
    exact (okT_on e1).2 ⟨e2, by rw [e3, e4]; exact (hG _ _ _ _ p2 q2).1, fun k hk => by rw [(e5 k hk).1, (e5 k hk).2]; exact (hG _ _ _ _ (p3 k hk) (q3 k hk)).1⟩
theorem mixS_has {f g : Int → Int → Int → Int → Int} (hG : Grows f g) {s t : St} (h1 : okT s = true) (h2 : okT t = true) : inT s (mixS f g s t) = true ∧ inT t (mixS f g s t) = true := by
  have h0 := mixS_ok hG h1 h2
  rw [inT_iff h1 h0, inT_iff h2 h0]
  cases h3 : s.on <;> cases h4 : t.on
  · exact ⟨fun h => by simp at h, fun h => by simp at h⟩
  · obtain ⟨e1, e2, e3, e4, e5⟩ := mixS_r (f := f) (g := g) h1 h2 h3 h4
    exact ⟨fun h => by simp at h, fun _ => ⟨e1, ⟨by omega, by omega⟩, fun k hk => ⟨by rw [(e5 k hk).1]; omega, by rw [(e5 k hk).2]; omega⟩⟩⟩
  · obtain ⟨e1, e2, e3, e4, e5⟩ := mixS_l (f := f) (g := g) h1 h2 h3 h4
    exact ⟨fun _ => ⟨e1, ⟨by omega, by omega⟩, fun k hk => ⟨by rw [(e5 k hk).1]; omega, by rw [(e5 k hk).2]; omega⟩⟩, fun h => by simp at h⟩
  · obtain ⟨e1, e2, e3, e4, e5⟩ := mixS_b (f := f) (g := g) h1 h2 h3 h4
    obtain ⟨p1, p2, p3⟩ := (okT_on h3).1 h1
    obtain ⟨q1, q2, q3⟩ := (okT_on h4).1 h2
    have hc := hG _ _ _ _ p2 q2
    have hk := fun k (hk : k < 4) => hG _ _ _ _ (p3 k hk) (q3 k hk)
    exact ⟨fun _ => ⟨e1, ⟨by omega, by omega⟩, fun k h => ⟨by rw [(e5 k h).1]; exact (hk k h).2.1, by rw [(e5 k h).2]; exact (hk k h).2.2.2.1⟩⟩, fun _ => ⟨e1, ⟨by omega, by omega⟩, fun k h => ⟨by rw [(e5 k h).1]; exact (hk k h).2.2.1, by rw [(e5 k h).2]; exact (hk k h).2.2.2.2⟩⟩⟩
theorem joinLo_of {a b c d : Int} (h1 : OkP a b) (h2 : OkP c d) : joinLo a b c d = min a c ∧ joinHi a b c d = max b d := by
  simp [joinLo, joinHi, two, itvOk_iff.2 h1, itvOk_iff.2 h2]
theorem join_grows : Grows joinLo joinHi := by
  intro a b c d h1 h2
  obtain ⟨e1, e2⟩ := joinLo_of h1 h2
  rw [e1, e2]
  unfold OkP at *
  omega
/-- The join hangs on no order. -/
theorem join_comm {s t : St} (h1 : okT s = true) (h2 : okT t = true) : SameS (mixS joinLo joinHi t s) (mixS joinLo joinHi s t) := by
  cases h3 : s.on <;> cases h4 : t.on
  · obtain ⟨e1, e2, e3, e4⟩ := mixS_off (f := joinLo) (g := joinHi) h1 h2 h3 h4
    obtain ⟨q1, q2, q3, q4⟩ := mixS_off (f := joinLo) (g := joinHi) h2 h1 h4 h3
    exact ⟨q1.trans e1.symm, q2.trans e2.symm, q3.trans e3.symm, q4.trans e4.symm, fun k hk => by omega⟩
  · obtain ⟨e1, e2, e3, e4, e5⟩ := mixS_r (f := joinLo) (g := joinHi) h1 h2 h3 h4
    obtain ⟨q1, q2, q3, q4, q5⟩ := mixS_l (f := joinLo) (g := joinHi) h2 h1 h4 h3
    exact ⟨q1.trans e1.symm, q2.trans e2.symm, q3.trans e3.symm, q4.trans e4.symm, fun k hk => ⟨by rw [(e5 k (by omega)).1, (q5 k (by omega)).1], by rw [(e5 k (by omega)).2, (q5 k (by omega)).2]⟩⟩
  · obtain ⟨e1, e2, e3, e4, e5⟩ := mixS_l (f := joinLo) (g := joinHi) h1 h2 h3 h4
    obtain ⟨q1, q2, q3, q4, q5⟩ := mixS_r (f := joinLo) (g := joinHi) h2 h1 h4 h3
    exact ⟨q1.trans e1.symm, q2.trans e2.symm, q3.trans e3.symm, q4.trans e4.symm, fun k hk => ⟨by rw [(e5 k (by omega)).1, (q5 k (by omega)).1], by rw [(e5 k (by omega)).2, (q5 k (by omega)).2]⟩⟩
  · obtain ⟨e1, e2, e3, e4, e5⟩ := mixS_b (f := joinLo) (g := joinHi) h1 h2 h3 h4
    obtain ⟨q1, q2, q3, q4, q5⟩ := mixS_b (f := joinLo) (g := joinHi) h2 h1 h4 h3
    obtain ⟨p1, p2, p3⟩ := (okT_on h3).1 h1
    obtain ⟨r1, r2, r3⟩ := (okT_on h4).1 h2
    have c1 := joinLo_of p2 r2
    have c2 := joinLo_of r2 p2
    refine ⟨q1.trans e1.symm, q2.trans e2.symm, by rw [q3, e3, c1.1, c2.1]; omega, by rw [q4, e4, c1.2, c2.2]; omega, fun k hk => ?_⟩
    have k4 : k < 4 := by omega
    have d1 := joinLo_of (p3 k k4) (r3 k k4)
    have d2 := joinLo_of (r3 k k4) (p3 k k4)
    rw [(e5 k k4).1, (q5 k k4).1, (e5 k k4).2, (q5 k k4).2, d1.1, d1.2, d2.1, d2.2]
    omega
/-- Whatever has both has the join. -/
theorem join_least {s t u : St} (h1 : okT s = true) (h2 : okT t = true) (h0 : okT u = true) (hs : inT s u = true) (ht : inT t u = true) : inT (mixS joinLo joinHi s t) u = true := by
  rw [inT_iff (mixS_ok join_grows h1 h2) h0]
  rw [inT_iff h1 h0] at hs
  rw [inT_iff h2 h0] at ht
  intro hon
  cases h3 : s.on <;> cases h4 : t.on
  · obtain ⟨e1, e2, e3, e4⟩ := mixS_off (f := joinLo) (g := joinHi) h1 h2 h3 h4
    rw [e1] at hon
    cases hon
  · obtain ⟨e1, e2, e3, e4, e5⟩ := mixS_r (f := joinLo) (g := joinHi) h1 h2 h3 h4
    obtain ⟨t1, t2, t3⟩ := ht h4
    exact ⟨t1, by rw [e3, e4]; exact t2, fun k hk => by rw [(e5 k hk).1, (e5 k hk).2]; exact t3 k hk⟩
  · obtain ⟨e1, e2, e3, e4, e5⟩ := mixS_l (f := joinLo) (g := joinHi) h1 h2 h3 h4
    obtain ⟨t1, t2, t3⟩ := hs h3
    exact ⟨t1, by rw [e3, e4]; exact t2, fun k hk => by rw [(e5 k hk).1, (e5 k hk).2]; exact t3 k hk⟩
  · obtain ⟨e1, e2, e3, e4, e5⟩ := mixS_b (f := joinLo) (g := joinHi) h1 h2 h3 h4
    obtain ⟨t1, t2, t3⟩ := hs h3
    obtain ⟨u1, u2, u3⟩ := ht h4
    obtain ⟨p1, p2, p3⟩ := (okT_on h3).1 h1
    obtain ⟨r1, r2, r3⟩ := (okT_on h4).1 h2
    have c1 := joinLo_of p2 r2
    refine ⟨t1, by rw [e3, e4, c1.1, c1.2]; omega, fun k hk => ?_⟩
    have d1 := joinLo_of (p3 k hk) (r3 k hk)
    have := t3 k hk
    have := u3 k hk
    rw [(e5 k hk).1, (e5 k hk).2, d1.1, d1.2]
    omega
end Go.Proofs.YtiehokibfdaleaaDoor
namespace Go.Proofs.YtiehokibfdaleaaDoor
open Go.ChangeShapes Go.WideShapes Go.ChangeAt Go.RowKit
set_option linter.unusedVariables false

theorem joinI_is (onA : Bool) (aA : Option Addr) (gA nA cA : Nat) (lA hA : Nat → Int) (xA yA : Int) (onB : Bool) (aB : Option Addr) (gB nB cB : Nat) (lB hB : Nat → Int) (xB yB : Int) (onJ : Bool) (nJ : Nat) (lJ hJ : Nat → Int) (xJ yJ : Int) (w : World) (q1 : nA ≤ 1048576) (q2 : nB ≤ 1048576) (kA : BndsAt aA gA 0 nA lA hA w) (kB : BndsAt aB gB 0 nB lB hB w) (hS : SameS (mixS joinLo joinHi ⟨onA, nA, lA, hA, xA, yA⟩ ⟨onB, nB, lB, hB, xB, yB⟩) ⟨onJ, nJ, lJ, hJ, xJ, yJ⟩) :
    Calls Tryd.prog 11 #[.agg #[.bool onA, .slice aA nA cA, .int .i64 xA, .int .i64 yA], .agg #[.bool onB, .slice aB nB cB, .int .i64 xB, .int .i64 yB]] w fun e w' => ∃ (aJ : Option Addr) (gJ cJ : Nat), e = .returned (.agg #[.bool onJ, .slice aJ nJ cJ, .int .i64 xJ, .int .i64 yJ]) ∧ BndsAt aJ gJ 0 nJ lJ hJ w' ∧ Below w.heap.size w w' := by
  refine (absJoinI _ _ _ _ _ _ _ _ _ _ _ _ _ _ _ _ _ _ _ _ w q1 q2 kA kB).mono ?_
  rintro e w' ⟨v, rfl, ⟨a, g, cap, rfl, hI⟩, hb⟩
  obtain ⟨e1, e2, e3, e4, e5⟩ := hS
  have hK := hI.at_
  dsimp only [mixS] at e1 e2 e3 e4 e5
  dsimp only [okT] at e1 e2 e3 e4 e5
  rw [e3, e4, e2, e1]
  refine ⟨a, g, cap, rfl, ⟨fun h => hK.at_ (by rw [e2]; exact h), fun h => hK.lt (by rw [e2]; exact h), fun k hk => (hK.lo k (by rw [e2]; exact hk)).trans (by rw [(e5 k (by rw [e2]; exact hk)).1]), fun k hk => (hK.hi k (by rw [e2]; exact hk)).trans (by rw [(e5 k (by rw [e2]; exact hk)).2])⟩, hb⟩
theorem inI_is (onA : Bool) (aA : Option Addr) (gA nA cA : Nat) (lA hA : Nat → Int) (xA yA : Int) (onB : Bool) (aB : Option Addr) (gB nB cB : Nat) (lB hB : Nat → Int) (xB yB : Int) (q : Bool) (w : World) (q1 : nA ≤ 1048576) (q2 : nB ≤ 1048576) (kA : BndsAt aA gA 0 nA lA hA w) (kB : BndsAt aB gB 0 nB lB hB w) (hq : inT ⟨onA, nA, lA, hA, xA, yA⟩ ⟨onB, nB, lB, hB, xB, yB⟩ = q) :
    Calls Tryd.prog 10 #[.agg #[.bool onA, .slice aA nA cA, .int .i64 xA, .int .i64 yA], .agg #[.bool onB, .slice aB nB cB, .int .i64 xB, .int .i64 yB]] w fun e w' => e = .returned (.bool q) ∧ Below w.heap.size w w' := by
  subst hq
  exact absInI _ _ _ _ _ _ _ _ _ _ _ _ _ _ _ _ _ _ _ _ w q1 q2 kA kB
theorem okS_is (onA : Bool) (aA : Option Addr) (gA nA cA : Nat) (lA hA : Nat → Int) (xA yA : Int) (q : Bool) (w : World) (kA : BndsAt aA gA 0 nA lA hA w) (hq : okT ⟨onA, nA, lA, hA, xA, yA⟩ = q) :
    Calls Tryd.prog 8 #[.agg #[.bool onA, .slice aA nA cA, .int .i64 xA, .int .i64 yA]] w fun e w' => e = .returned (.bool q) ∧ Below w.heap.size w w' := by
  subst hq
  exact absOkS _ _ _ _ _ _ _ _ _ _ w kA
/-- A state that was answered. -/
def StJ (on : Bool) (n : Nat) (lo hi : Nat → Int) (c d : Int) (v : Value) (W : World) : Prop := ∃ (a : Option Addr) (g cap : Nat), v = .agg #[.bool on, .slice a n cap, .int .i64 c, .int .i64 d] ∧ BndsAt a g 0 n lo hi W
theorem StJ.next {on : Bool} {n i : Nat} {lo hi : Nat → Int} {c d : Int} {v : Value} {W W' : World} (h : StJ on n lo hi c d v W) (hb : TX i W W') : StJ on n lo hi c d v W' := by
  obtain ⟨a, g, cap, e, h1⟩ := h
  exact ⟨a, g, cap, e, h1.next hb⟩
end Go.Proofs.YtiehokibfdaleaaDoor
namespace Go.Proofs.YtiehokibfdaleaaDoor
open Go.ChangeShapes Go.WideShapes Go.ChangeAt Go.RowKit

set_option maxRecDepth 10000 in
set_option maxHeartbeats 8000000 in
theorem owStateT (on : Bool) (a : Option Addr) (g o n cap : Nat) (lo hi : Nat → Int) (c d : Int) (a' : Option Addr) (h o' cap' : Nat) (w : World) (h1 : BndsAt a g o n lo hi w) (h2 : BndsAt a' h o' n lo hi w) (hn : n ≤ 1048576) :
    Calls Tryd.prog 6 #[.agg #[.bool on, .slice a n cap, .int .i64 c, .int .i64 d], .agg #[.bool on, .slice a' n cap', .int .i64 c, .int .i64 d]] w fun e w' => e = .returned (.bool true) ∧ Below w.heap.size w w' := by
  have H : HeldL w [(w.heap.size + 1, [Value.bool on, .slice a' n cap', .int .i64 c, .int .i64 d]), (w.heap.size, [Value.bool on, .slice a n cap, .int .i64 c, .int .i64 d])] ((w.alloc (.cells #[.bool on, .slice a n cap, .int .i64 c, .int .i64 d] 27)).alloc (.cells #[.bool on, .slice a' n cap', .int .i64 c, .int .i64 d] 27)) := by
    have e1 : w.heap.size + 1 = (w.alloc (.cells #[.bool on, .slice a n cap, .int .i64 c, .int .i64 d] 27)).heap.size := by simp
    rw [e1]
    exact HeldL.newL (vs := [Value.bool on, .slice a' n cap', .int .i64 c, .int .i64 d]) (HeldL.newL (vs := [Value.bool on, .slice a n cap, .int .i64 c, .int .i64 d]) (HeldL.nil w))
  obtain ⟨Lb, hLb⟩ : ∃ L, L = [(w.heap.size + 1, [Value.bool on, .slice a' n cap', .int .i64 c, .int .i64 d]), (w.heap.size, [Value.bool on, .slice a n cap, .int .i64 c, .int .i64 d])] := ⟨_, rfl⟩
  have m0 : (w.heap.size, [Value.bool on, .slice a n cap, .int .i64 c, .int .i64 d]) ∈ Lb := by rw [hLb]; simp
  have m1 : (w.heap.size + 1, [Value.bool on, .slice a' n cap', .int .i64 c, .int .i64 d]) ∈ Lb := by rw [hLb]; simp
  rw [← hLb] at H
  clear hLb
  have I := h1.next H.below
  have J := h2.next H.below
  clear h1 h2
  go_enter Tryd.func6, Tryd.ntmps6
  go_wp2_with fail
  obtain ⟨X, hX⟩ : ∃ X, X = w.heap.size := ⟨_, rfl⟩
  obtain ⟨Y, hY⟩ : ∃ Y, Y = w.heap.size + 1 := ⟨_, rfl⟩
  rw [← hY, ← hX]
  rw [← hX] at m0
  rw [← hY] at m1
  have hXh : Hid (X = w.heap.size) := hX
  have hYh : Hid (Y = w.heap.size + 1) := hY
  clear hX hY
  go_loopw [5] (fun i wr => ∃ k : Nat, k ≤ n ∧ i = .int .i64 k ∧ HeldL w Lb wr ∧ BndsAt a g o n lo hi wr ∧ BndsAt a' h o' n lo hi wr) (fun i _ => n - (intOf i).toNat)
  case atStart => exact ⟨0, Nat.zero_le _, rfl, H, I, J⟩
  case round =>
    clear H I J
    obtain ⟨k, hk, rfl, H, hA, hB⟩ := hrel
    by_cases hlt : k < n
    · have ea := hA.at_ (by omega)
      have eb := hB.at_ (by omega)
      subst ea eb
      have t1 : ((k : Int)).toNat = k := by omega
      have t2 : (0 : Int) ≤ (k : Int) := by omega
      have t3 : (k : Int) < (n : Int) := by omega
      have c1 := H.cell m0 (i := 1) rfl
      dsimp only at c1
      have hS0 : HX w wr Lb wr.drew := ⟨H.drew, (Below.refl _ wr).drew⟩
      clear H
      go_wp2_with fail
      refine region_inv3 [(0, 34), (1, 35), (2, 36), (3, 37), (4, 38), (5, 39), (6, 40), (7, 41), (8, 42), (9, 43), (10, 44)]
        (fun j v _ => match j with
          | 0 => Is (.pointer (some ⟨X, 1, none⟩)) v
          | 1 => Is (.slice (some ⟨g, o, none⟩) n cap) v
          | 2 => Is (.int .i64 k) v
          | 3 => Is (.pointer (some ⟨g, o + k * 2, none⟩)) v
          | 4 => Is (.agg #[.int .i64 (lo k), .int .i64 (hi k)]) v
          | 5 => Is (.pointer (some ⟨Y, 1, none⟩)) v
          | 6 => Is (.slice (some ⟨h, o', none⟩) n cap') v
          | 7 => Is (.int .i64 k) v
          | 8 => Is (.pointer (some ⟨h, o' + k * 2, none⟩)) v
          | 9 => Is (.agg #[.int .i64 (lo k), .int .i64 (hi k)]) v
          | 10 => Is (.bool false) v
          | _ => True)
        (fun _ W => HX w wr Lb W) TT
        (by kernel_rfl) (by kernel_rfl) (by kernel_rfl) (by kernel_rfl) (by kernel_rfl) rfl hS0 (fun i j v W W' _ h _ => h) ?_ ?_
      · intro i L vals W hi' hφ hS hL hd
        have hi2 : i < 11 := hi'
        clear hi'
        rcases (show i = 0 ∨ i = 1 ∨ i = 2 ∨ i = 3 ∨ i = 4 ∨ i = 5 ∨ i = 6 ∨ i = 7 ∨ i = 8 ∨ i = 9 ∨ i = 10 by omega) with rfl | rfl | rfl | rfl | rfl | rfl | rfl | rfl | rfl | rfl | rfl
        · refine wpAt_of rfl rfl ?_
          simp only [frOf, Act.put]
          go_wp2_with fail
          first | exact ⟨trivial, rfl, trivial, hS⟩ | exact ⟨rfl, trivial, hS⟩ | exact ⟨trivial, rfl, trivial⟩ | exact ⟨rfl, trivial⟩ | exact rfl
        · have k0 : vals 0 = .pointer (some ⟨X, 1, none⟩) := hφ 0 (hd 0 (by decide))
          have c1 := hS.cell m0 (i := 1) rfl
          dsimp only at c1
          refine wpAt_of rfl rfl ?_
          simp only [frOf, Act.put]
          go_wp2_with fail
          first | exact ⟨trivial, rfl, trivial, hS⟩ | exact ⟨rfl, trivial, hS⟩ | exact ⟨trivial, rfl, trivial⟩ | exact ⟨rfl, trivial⟩ | exact rfl
        · refine wpAt_of rfl rfl ?_
          simp only [frOf, Act.put]
          go_wp2_with fail
          first | exact ⟨trivial, rfl, trivial, hS⟩ | exact ⟨rfl, trivial, hS⟩ | exact ⟨trivial, rfl, trivial⟩ | exact ⟨rfl, trivial⟩ | exact rfl
        · have k1 : vals 1 = .slice (some ⟨g, o, none⟩) n cap := hφ 1 (hd 1 (by decide))
          have k2 : vals 2 = .int .i64 k := hφ 2 (hd 2 (by decide))
          refine wpAt_of rfl rfl ?_
          simp only [frOf, Act.put]
          go_wp2_with fail
          first | exact ⟨trivial, rfl, trivial, hS⟩ | exact ⟨rfl, trivial, hS⟩ | exact ⟨trivial, rfl, trivial⟩ | exact ⟨rfl, trivial⟩ | exact rfl
        · have k3 : vals 3 = .pointer (some ⟨g, o + k * 2, none⟩) := hφ 3 (hd 3 (by decide))
          have I := hA.next hS.beh
          have c0 := I.lo k hlt
          have c1 := I.hi k hlt
          refine wpAt_of rfl rfl ?_
          simp only [frOf, Act.put]
          go_wp2_with fail
          first | exact ⟨trivial, rfl, trivial, hS⟩ | exact ⟨rfl, trivial, hS⟩ | exact ⟨trivial, rfl, trivial⟩ | exact ⟨rfl, trivial⟩ | exact rfl
        · refine wpAt_of rfl rfl ?_
          simp only [frOf, Act.put]
          go_wp2_with fail
          first | exact ⟨trivial, rfl, trivial, hS⟩ | exact ⟨rfl, trivial, hS⟩ | exact ⟨trivial, rfl, trivial⟩ | exact ⟨rfl, trivial⟩ | exact rfl
        · have k5 : vals 5 = .pointer (some ⟨Y, 1, none⟩) := hφ 5 (hd 5 (by decide))
          have c1 := hS.cell m1 (i := 1) rfl
          dsimp only at c1
          refine wpAt_of rfl rfl ?_
          simp only [frOf, Act.put]
          go_wp2_with fail
          first | exact ⟨trivial, rfl, trivial, hS⟩ | exact ⟨rfl, trivial, hS⟩ | exact ⟨trivial, rfl, trivial⟩ | exact ⟨rfl, trivial⟩ | exact rfl
        · refine wpAt_of rfl rfl ?_
          simp only [frOf, Act.put]
          go_wp2_with fail
          first | exact ⟨trivial, rfl, trivial, hS⟩ | exact ⟨rfl, trivial, hS⟩ | exact ⟨trivial, rfl, trivial⟩ | exact ⟨rfl, trivial⟩ | exact rfl
        · have k6 : vals 6 = .slice (some ⟨h, o', none⟩) n cap' := hφ 6 (hd 6 (by decide))
          have k7 : vals 7 = .int .i64 k := hφ 7 (hd 7 (by decide))
          refine wpAt_of rfl rfl ?_
          simp only [frOf, Act.put]
          go_wp2_with fail
          first | exact ⟨trivial, rfl, trivial, hS⟩ | exact ⟨rfl, trivial, hS⟩ | exact ⟨trivial, rfl, trivial⟩ | exact ⟨rfl, trivial⟩ | exact rfl
        · have k8 : vals 8 = .pointer (some ⟨h, o' + k * 2, none⟩) := hφ 8 (hd 8 (by decide))
          have I := hB.next hS.beh
          have c0 := I.lo k hlt
          have c1 := I.hi k hlt
          refine wpAt_of rfl rfl ?_
          simp only [frOf, Act.put]
          go_wp2_with fail
          first | exact ⟨trivial, rfl, trivial, hS⟩ | exact ⟨rfl, trivial, hS⟩ | exact ⟨trivial, rfl, trivial⟩ | exact ⟨rfl, trivial⟩ | exact rfl
        · have k4 : vals 4 = .agg #[.int .i64 (lo k), .int .i64 (hi k)] := hφ 4 (hd 4 (by decide))
          have k9 : vals 9 = .agg #[.int .i64 (lo k), .int .i64 (hi k)] := hφ 9 (hd 9 (by decide))
          refine wpAt_of rfl rfl ?_
          simp only [frOf, Act.put]
          go_wp2_with fail
          first | exact ⟨trivial, rfl, trivial, hS⟩ | exact ⟨rfl, trivial, hS⟩ | exact ⟨trivial, rfl, trivial⟩ | exact ⟨rfl, trivial⟩ | exact rfl
      · intro L vals W hall hφ hS
        have k0 : vals 0 = .pointer (some ⟨X, 1, none⟩) := hφ 0 (by decide)
        have k1 : vals 1 = .slice (some ⟨g, o, none⟩) n cap := hφ 1 (by decide)
        have k2 : vals 2 = .int .i64 k := hφ 2 (by decide)
        have k3 : vals 3 = .pointer (some ⟨g, o + k * 2, none⟩) := hφ 3 (by decide)
        have k4 : vals 4 = .agg #[.int .i64 (lo k), .int .i64 (hi k)] := hφ 4 (by decide)
        have k5 : vals 5 = .pointer (some ⟨Y, 1, none⟩) := hφ 5 (by decide)
        have k6 : vals 6 = .slice (some ⟨h, o', none⟩) n cap' := hφ 6 (by decide)
        have k7 : vals 7 = .int .i64 k := hφ 7 (by decide)
        have k8 : vals 8 = .pointer (some ⟨h, o' + k * 2, none⟩) := hφ 8 (by decide)
        have k9 : vals 9 = .agg #[.int .i64 (lo k), .int .i64 (hi k)] := hφ 9 (by decide)
        have k10 : vals 10 = .bool false := hφ 10 (by decide)
        simp only [frOf, Act.put, List.setIfInBounds_toArray, List.set_cons_succ, List.set_cons_zero, k0, k1, k2, k3, k4, k5, k6, k7, k8, k9, k10]
        clear k0 k1 k2 k3 k4 k5 k6 k7 k8 k9 k10 hall hφ hS0
        go_wp2_with fail
        go_roundw
        case rel => exact ⟨k + 1, by omega, by go_num, hS.1, hA.next hS.2, hB.next hS.2⟩
        case measure => simp [intOf]; omega
    · obtain rfl : k = n := by omega
      have c1 := H.cell m0 (i := 1) rfl
      dsimp only at c1
      go_wp2_with fail
      go_ret
      exact ⟨rfl, H.below⟩
end Go.Proofs.YtiehokibfdaleaaDoor
namespace Go.Proofs.YtiehokibfdaleaaDoor
open Go.ChangeShapes Go.WideShapes Go.ChangeAt Go.RowKit
set_option linter.unusedVariables false

theorem mixW_I (onA : Bool) (aA : Option Addr) (gA nA cA : Nat) (lA hA : Nat → Int) (xA yA : Int) (onB : Bool) (aB : Option Addr) (gB nB cB : Nat) (lB hB : Nat → Int) (xB yB : Int) (onJ : Bool) (nJ : Nat) (lJ hJ : Nat → Int) (xJ yJ : Int) (w : World) (hst : StepsIn w) (q1 : nA ≤ 1048576) (q2 : nB ≤ 1048576) (kA : BndsAt aA gA 0 nA lA hA w) (kB : BndsAt aB gB 0 nB lB hB w) (hS : SameS (mixS wideLo wideHi ⟨onA, nA, lA, hA, xA, yA⟩ ⟨onB, nB, lB, hB, xB, yB⟩) ⟨onJ, nJ, lJ, hJ, xJ, yJ⟩) :
    Calls Tryd.prog 5 #[.agg #[.bool onA, .slice aA nA cA, .int .i64 xA, .int .i64 yA], .agg #[.bool onB, .slice aB nB cB, .int .i64 xB, .int .i64 yB]] w fun e w' => ∃ (aJ : Option Addr) (gJ cJ : Nat), e = .returned (.agg #[.bool onJ, .slice aJ nJ cJ, .int .i64 xJ, .int .i64 yJ]) ∧ BndsAt aJ gJ 0 nJ lJ hJ w' ∧ Below w.heap.size w w' := by
  refine (absWideI _ _ _ _ _ _ _ _ _ _ _ _ _ _ _ _ _ _ _ _ w hst q1 q2 kA kB).mono ?_
  rintro e w' ⟨v, rfl, ⟨a, g, cap, rfl, hI⟩, hb⟩
  obtain ⟨e1, e2, e3, e4, e5⟩ := hS
  have hK := hI.at_
  dsimp only [mixS] at e1 e2 e3 e4 e5
  dsimp only [okT] at e1 e2 e3 e4 e5
  rw [e3, e4, e2, e1]
  refine ⟨a, g, cap, rfl, ⟨fun h => hK.at_ (by rw [e2]; exact h), fun h => hK.lt (by rw [e2]; exact h), fun k hk => (hK.lo k (by rw [e2]; exact hk)).trans (by rw [(e5 k (by rw [e2]; exact hk)).1]), fun k hk => (hK.hi k (by rw [e2]; exact hk)).trans (by rw [(e5 k (by rw [e2]; exact hk)).2])⟩, hb⟩
theorem mixW_S (onA : Bool) (aA : Option Addr) (gA nA cA : Nat) (lA hA : Nat → Int) (xA yA : Int) (onB : Bool) (aB : Option Addr) (gB nB cB : Nat) (lB hB : Nat → Int) (xB yB : Int) (onJ : Bool) (nJ : Nat) (lJ hJ : Nat → Int) (xJ yJ : Int) (w : World) (kA : BndsAt aA gA 0 nA lA hA w) (kB : BndsAt aB gB 0 nB lB hB w) (hS : SameS (mixS wideLo wideHi ⟨onA, nA, lA, hA, xA, yA⟩ ⟨onB, nB, lB, hB, xB, yB⟩) ⟨onJ, nJ, lJ, hJ, xJ, yJ⟩) :
    Calls Tryd.prog 7 #[.agg #[.bool onA, .slice aA nA cA, .int .i64 xA, .int .i64 yA], .agg #[.bool onB, .slice aB nB cB, .int .i64 xB, .int .i64 yB]] w fun e w' => ∃ (aJ : Option Addr) (gJ cJ : Nat), e = .returned (.agg #[.bool onJ, .slice aJ nJ cJ, .int .i64 xJ, .int .i64 yJ]) ∧ BndsAt aJ gJ 0 nJ lJ hJ w' ∧ Below w.heap.size w w' := by
  refine (absWideS _ _ _ _ _ _ _ _ _ _ _ _ _ _ _ _ _ _ _ _ w kA kB).mono ?_
  rintro e w' ⟨v, rfl, ⟨a, g, cap, rfl, hI⟩, hb⟩
  obtain ⟨e1, e2, e3, e4, e5⟩ := hS
  have hK := hI.at_
  dsimp only [mixS] at e1 e2 e3 e4 e5
  dsimp only [okT] at e1 e2 e3 e4 e5
  rw [e3, e4, e2, e1]
  refine ⟨a, g, cap, rfl, ⟨fun h => hK.at_ (by rw [e2]; exact h), fun h => hK.lt (by rw [e2]; exact h), fun k hk => (hK.lo k (by rw [e2]; exact hk)).trans (by rw [(e5 k (by rw [e2]; exact hk)).1]), fun k hk => (hK.hi k (by rw [e2]; exact hk)).trans (by rw [(e5 k (by rw [e2]; exact hk)).2])⟩, hb⟩
theorem stp_le (k : Nat) : -32768 ≤ stp k := by
  unfold stp
  split <;> omega
theorem dnA_le {n : Int} (h : -32768 ≤ n) : -32768 ≤ dnA (-32768) n 11 ∧ dnA (-32768) n 11 ≤ n := by
  have : ∀ k, -32768 ≤ dnA (-32768) n k ∧ dnA (-32768) n k ≤ n := by
    intro k
    induction k with
    | zero => exact ⟨Int.le_refl _, h⟩
    | succ k ih =>
      have := stp_le k
      unfold dnA
      split <;> omega
  exact this 11
theorem upA_ge {n : Int} (h : n ≤ 32767) : n ≤ upA 32767 n 11 ∧ upA 32767 n 11 ≤ 32767 := by
  rw [upA_eq]
  constructor <;> (repeat' split) <;> omega
theorem wide_of {a b c d : Int} (h1 : OkP a b) (h2 : OkP c d) : wideLo a b c d = (if c < a then dnA (-32768) c 11 else a) ∧ wideHi a b c d = (if b < d then upA 32767 d 11 else b) := by
  simp [wideLo, wideHi, two, itvOk_iff.2 h1, itvOk_iff.2 h2]
theorem wide_grows : Grows wideLo wideHi := by
  intro a b c d h1 h2
  obtain ⟨e1, e2⟩ := wide_of h1 h2
  rw [e1, e2]
  have := dnA_le (n := c) h2.1
  have := upA_ge (n := d) h2.2.2
  unfold OkP at *
  split <;> split <;> omega
/-- Over what is in it already nothing grows. -/
theorem wide_rest {s t : St} (h1 : okT s = true) (h2 : okT t = true) (h : inT t s = true) : SameS (mixS wideLo wideHi s t) s := by
  rw [inT_iff h2 h1] at h
  cases h3 : s.on <;> cases h4 : t.on
  · obtain ⟨e1, e2, e3, e4⟩ := mixS_off (f := wideLo) (g := wideHi) h1 h2 h3 h4
    obtain ⟨q1, q2, q3⟩ := (okT_off h3).1 h1
    exact ⟨e1.trans h3.symm, e2.trans q1.symm, e3.trans q2.symm, e4.trans q3.symm, fun k hk => by omega⟩
  · have := (h h4).1
    rw [h3] at this
    cases this
  · obtain ⟨e1, e2, e3, e4, e5⟩ := mixS_l (f := wideLo) (g := wideHi) h1 h2 h3 h4
    obtain ⟨q1, q2, q3⟩ := (okT_on h3).1 h1
    exact ⟨e1.trans h3.symm, e2.trans q1.symm, e3, e4, fun k hk => e5 k (by omega)⟩
  · obtain ⟨e1, e2, e3, e4, e5⟩ := mixS_b (f := wideLo) (g := wideHi) h1 h2 h3 h4
    obtain ⟨p1, p2, p3⟩ := (okT_on h3).1 h1
    obtain ⟨r1, r2, r3⟩ := (okT_on h4).1 h2
    obtain ⟨_, u2, u3⟩ := h h4
    have c1 := wide_of p2 r2
    refine ⟨e1.trans h3.symm, e2.trans p1.symm, ?_, ?_, fun k hk => ?_⟩
    · rw [e3, c1.1, if_neg (by omega)]
    · rw [e4, c1.2, if_neg (by omega)]
    · have k4 : k < 4 := by omega
      have d1 := wide_of (p3 k k4) (r3 k k4)
      have := u3 k k4
      rw [(e5 k k4).1, (e5 k k4).2, d1.1, d1.2, if_neg (by omega), if_neg (by omega)]
      exact ⟨rfl, rfl⟩
/-- Of a state to which nothing comes it is the other one. -/
theorem wide_none {t : St} (l h : Nat → Int) (h2 : okT t = true) : SameS (mixS wideLo wideHi ⟨false, 0, l, h, 0, 0⟩ t) t := by
  have h1 : okT ⟨false, 0, l, h, 0, 0⟩ = true := (okT_off rfl).2 ⟨rfl, rfl, rfl⟩
  cases h4 : t.on
  · obtain ⟨e1, e2, e3, e4⟩ := mixS_off (f := wideLo) (g := wideHi) h1 h2 rfl h4
    obtain ⟨q1, q2, q3⟩ := (okT_off h4).1 h2
    exact ⟨e1.trans h4.symm, e2.trans q1.symm, e3.trans q2.symm, e4.trans q3.symm, fun k hk => by omega⟩
  · obtain ⟨e1, e2, e3, e4, e5⟩ := mixS_r (f := wideLo) (g := wideHi) h1 h2 rfl h4
    obtain ⟨q1, q2, q3⟩ := (okT_on h4).1 h2
    exact ⟨e1.trans h4.symm, e2.trans q1.symm, e3, e4, fun k hk => e5 k (by omega)⟩
end Go.Proofs.YtiehokibfdaleaaDoor
