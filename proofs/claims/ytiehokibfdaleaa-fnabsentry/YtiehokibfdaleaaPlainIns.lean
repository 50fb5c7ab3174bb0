/- Steps, plainly: which are ok. No program in it. -/
import Derived.WalkKit
import Derived.Test.YtiehokibfdaleaaPlain
namespace Go.Proofs.Ytiehokibfdaleaa
def inB (n x y : Int) : Bool := decide (x ≤ n) && decide (n ≤ y)
/-- What a step of that kind does not have is 0. -/
def formB (o d a b r l h t : Int) : Bool :=
  if o = 1 then r == 0 && l == 0 && h == 0 && t == 0
  else if o = 2 then r == 0 && l == 0 && h == 0 && t == 0
  else if o = 3 then r == 0 && l == 0 && h == 0 && t == 0
  else if o = 4 then r == 0 && l == 0 && h == 0 && t == 0
  else if o = 5 then a == 0 && b == 0 && r == 0 && t == 0
  else if o = 6 then b == 0 && r == 0 && l == 0 && h == 0 && t == 0
  else if o = 7 then d == 0 && r == 0 && l == 0 && h == 0 && t == 0
  else if o = 8 then d == 0 && l == 0 && h == 0
  else if o = 9 then d == 0 && a == 0 && b == 0 && r == 0 && l == 0 && h == 0
  else if o = 10 then b == 0 && r == 0 && l == 0 && h == 0
  else if o = 11 then d == 0 && l == 0 && h == 0 && t == 0
  else if o = 12 then d == 0 && b == 0 && r == 0 && l == 0 && h == 0 && t == 0
  else false
/-- What a step of that kind has is as it must be. -/
def hasB (o r l h t p s : Int) : Bool :=
  if o = 5 then okB l && okB h && decide (l ≤ h)
  else if o = 8 then inB r 1 4 && decide (0 ≤ t) && decide (t < s)
  else if o = 9 then decide (0 ≤ t) && decide (t < s)
  else if o = 10 then decide (0 ≤ t) && decide (t < p)
  else if o = 11 then inB r 1 4
  else true
theorem form_out {o d a b r l h t : Int} (ho : inB o 1 12 = false) : formB o d a b r l h t = false := by
  have n : ∀ k : Int, 1 ≤ k → k ≤ 12 → ¬ o = k := fun k h1 h2 e => by subst e; simp [inB, h1, h2] at ho
  simp [formB, n]
def insOk (o d a b r l h t p s : Int) : Bool := formB o d a b r l h t && (inB d 0 3 && inB a 0 3 && inB b 0 3) && hasB o r l h t p s
end Go.Proofs.Ytiehokibfdaleaa
