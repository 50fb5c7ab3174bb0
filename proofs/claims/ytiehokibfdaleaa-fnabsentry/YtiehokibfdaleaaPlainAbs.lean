/- States, plainly, no program in it: what chapter 7's functions answer, as functions of the ends. -/
import Derived.Test.YtiehokibfdaleaaPlainItv
namespace Go.Proofs.Ytiehokibfdaleaa

/-- The first k bounds are ok. -/
def allOk (lo hi : Nat → Int) : Nat → Bool
  | 0 => true
  | k + 1 => allOk lo hi k && itvOk (lo k) (hi k)
theorem allOk_false {lo hi : Nat → Int} {k n : Nat} (h : k < n) (hk : itvOk (lo k) (hi k) = false) : allOk lo hi n = false := by
  induction n with
  | zero => omega
  | succ n ih =>
    rcases (show k < n ∨ k = n by omega) with h' | rfl
    · simp [allOk, ih h']
    · simp [allOk, hk]
theorem allOk_at {lo hi : Nat → Int} {k n : Nat} (h : k < n) (ha : allOk lo hi n = true) : itvOk (lo k) (hi k) = true := by
  cases hk : itvOk (lo k) (hi k)
  · rw [allOk_false h hk] at ha; cases ha
  · rfl
def absOk (on : Bool) (n : Nat) (lo hi : Nat → Int) (c d : Int) : Bool :=
  match on with
  | false => decide (n = 0) && (decide (c = 0) && decide (d = 0))
  | true => decide (n = 4) && (itvOk c d && allOk lo hi n)
/-- The first k numbers are in the first k bounds. -/
def hasTo (lo hi z : Nat → Int) : Nat → Bool
  | 0 => true
  | k + 1 => hasTo lo hi z k && itvHas (lo k) (hi k) (z k)
theorem hasTo_false {lo hi z : Nat → Int} {k n : Nat} (h : k < n) (hk : itvHas (lo k) (hi k) (z k) = false) : hasTo lo hi z n = false := by
  induction n with
  | zero => omega
  | succ n ih =>
    rcases (show k < n ∨ k = n by omega) with h' | rfl
    · simp [hasTo, ih h']
    · simp [hasTo, hk]
/-- The first k bounds are within the first k others. -/
def inTo (lo hi lo' hi' : Nat → Int) : Nat → Bool
  | 0 => true
  | k + 1 => inTo lo hi lo' hi' k && itvIn (lo k) (hi k) (lo' k) (hi' k)
theorem inTo_false {lo hi lo' hi' : Nat → Int} {k n : Nat} (h : k < n) (hk : itvIn (lo k) (hi k) (lo' k) (hi' k) = false) : inTo lo hi lo' hi' n = false := by
  induction n with
  | zero => omega
  | succ n ih =>
    rcases (show k < n ∨ k = n by omega) with h' | rfl
    · simp [inTo, ih h']
    · simp [inTo, hk]
end Go.Proofs.Ytiehokibfdaleaa
