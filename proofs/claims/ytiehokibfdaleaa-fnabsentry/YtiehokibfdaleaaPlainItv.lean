/- Bounds, plainly, no program in it: what chapter 2's functions answer, as functions of the ends. -/
import Derived.Test.YtiehokibfdaleaaPlain
namespace Go.Proofs.Ytiehokibfdaleaa

def itvOk (a b : Int) : Bool := okB a && okB b && decide (a ≤ b)
theorem itvOk_of {a b : Int} (h : itvOk a b = true) : okB a = true ∧ okB b = true ∧ a ≤ b := by
  simp [itvOk] at h
  exact ⟨h.1.1, h.1.2, h.2⟩
def itvHas (a b n : Int) : Bool := itvOk a b && (decide (a ≤ n) && decide (n ≤ b))
def itvIn (a b c d : Int) : Bool := itvOk a b && itvOk c d && decide (c ≤ a) && decide (b ≤ d)
def two (a b c d : Int) : Bool := itvOk a b && itvOk c d
def joinLo (a b c d : Int) : Int := if two a b c d then min a c else 0
def joinHi (a b c d : Int) : Int := if two a b c d then max b d else 0
def meetOk (a b c d : Int) : Bool := two a b c d && decide (max a c ≤ min b d)
def meetLo (a b c d : Int) : Int := if meetOk a b c d then max a c else 0
def meetHi (a b c d : Int) : Int := if meetOk a b c d then min b d else 0
/-- How often 65536 lies below a number. -/
def turn (n : Int) : Int := (n + 32768) / 65536
theorem turn_pos (n : Int) (h : 0 ≤ n) : n.tdiv 65536 = n / 65536 := Int.tdiv_eq_ediv_of_nonneg h
theorem turn_neg (n : Int) (h : n < 0) : n.tdiv 65536 = -((-n) / 65536) := by
  have e : n.tdiv 65536 = -((-n).tdiv 65536) := by rw [Int.neg_tdiv]; omega
  rw [e, turn_pos _ (by omega)]
def far (n : Int) : Bool := decide (-1099511627776 ≤ n) && decide (n ≤ 1099511627776)
def foldOk (lo hi : Int) : Bool := far lo && far hi && decide (lo ≤ hi)
def foldLo (lo hi : Int) : Int := if foldOk lo hi then (if turn lo = turn hi then wr lo else -32768) else 0
def foldHi (lo hi : Int) : Int := if foldOk lo hi then (if turn lo = turn hi then wr hi else 32767) else 0
/-- The least and the greatest of four. -/
def spanLo (a b c d : Int) : Int := min (min a b) (min c d)
def spanHi (a b c d : Int) : Int := max (max a b) (max c d)
/-- Bounds of quotients, by bounds that hold more than 0. -/
def divLo (a b c d : Int) : Int :=
  if 0 ≤ c then spanLo (a.tdiv (max c 1)) (a.tdiv d) (b.tdiv (max c 1)) (b.tdiv d)
  else if d ≤ 0 then spanLo (a.tdiv c) (a.tdiv (min d (-1))) (b.tdiv c) (b.tdiv (min d (-1)))
  else min (spanLo (a.tdiv c) (a.tdiv (-1)) (b.tdiv c) (b.tdiv (-1))) (spanLo a (a.tdiv d) b (b.tdiv d))
def divHi (a b c d : Int) : Int :=
  if 0 ≤ c then spanHi (a.tdiv (max c 1)) (a.tdiv d) (b.tdiv (max c 1)) (b.tdiv d)
  else if d ≤ 0 then spanHi (a.tdiv c) (a.tdiv (min d (-1))) (b.tdiv c) (b.tdiv (min d (-1)))
  else max (spanHi (a.tdiv c) (a.tdiv (-1)) (b.tdiv c) (b.tdiv (-1))) (spanHi a (a.tdiv d) b (b.tdiv d))
theorem tdiv_small (a b : Int) (h1 : -32768 ≤ a) (h2 : a ≤ 32768) : -32768 ≤ a.tdiv b ∧ a.tdiv b ≤ 32768 := by
  have h : (a.tdiv b).natAbs ≤ a.natAbs := by rw [Int.natAbs_tdiv]; exact Nat.div_le_self _ _
  omega
/-- Reckoning with bounds. -/
def itvDoOk (op a b c d : Int) : Bool := two a b c d && (op == 1 || op == 2 || op == 3 || (op == 4 && !(c == 0 && d == 0)))
def itvDoLo (op a b c d : Int) : Int :=
  if itvDoOk op a b c d then
    (if op = 1 then foldLo (a + c) (b + d) else if op = 2 then foldLo (a - d) (b - c)
     else if op = 3 then foldLo (spanLo (a * c) (a * d) (b * c) (b * d)) (spanHi (a * c) (a * d) (b * c) (b * d))
     else foldLo (divLo a b c d) (divHi a b c d))
  else 0
def itvDoHi (op a b c d : Int) : Int :=
  if itvDoOk op a b c d then
    (if op = 1 then foldHi (a + c) (b + d) else if op = 2 then foldHi (a - d) (b - c)
     else if op = 3 then foldHi (spanLo (a * c) (a * d) (b * c) (b * d)) (spanHi (a * c) (a * d) (b * c) (b * d))
     else foldHi (divLo a b c d) (divHi a b c d))
  else 0
/-- Bounds without a number at their ends. -/
def cutOk (a b n : Int) : Bool := !(a == n && b == n)
def cutLo (a b n : Int) : Int := if cutOk a b n then (if a = n then n + 1 else a) else 0
def cutHi (a b n : Int) : Int := if cutOk a b n then (if b = n then n - 1 else b) else 0
/-- Two bounds and whether there are some. -/
structure Two where
  l0 : Int
  h0 : Int
  l1 : Int
  h1 : Int
  ok : Bool
def Two.none : Two := ⟨0, 0, 0, 0, false⟩
def Two.swap (r : Two) : Two := ⟨r.l1, r.h1, r.l0, r.h0, r.ok⟩
def both (a b c d : Int) : Two := if a ≤ b ∧ c ≤ d then ⟨a, b, c, d, true⟩ else Two.none
def otherOk1 (a b c d : Int) : Bool := if c = d then cutOk a b c else true
def otherOk (a b c d : Int) : Bool := if otherOk1 a b c d = true ∧ a = b then cutOk c d a else otherOk1 a b c d
def other (a b c d : Int) : Two :=
  if otherOk a b c d then ⟨if c = d then cutLo a b c else a, if c = d then cutHi a b c else b, if a = b then cutLo c d a else c, if a = b then cutHi c d a else d, true⟩
  else Two.none
def itvRel (rel a b c d : Int) : Two :=
  if two a b c d then
    (if rel = 1 then both a (min b (d - 1)) (max c (a + 1)) d
     else if rel = 2 then both a (min b d) (max c a) d
     else if rel = 3 then both (max a c) (min b d) (max a c) (min b d)
     else if rel = 4 then other a b c d
     else Two.none)
  else Two.none
def itvNot (rel a b c d : Int) : Two :=
  if rel = 1 then (itvRel 2 c d a b).swap
  else if rel = 2 then (itvRel 1 c d a b).swap
  else if rel = 3 then itvRel 4 a b c d
  else if rel = 4 then itvRel 3 a b c d
  else Two.none
end Go.Proofs.Ytiehokibfdaleaa
