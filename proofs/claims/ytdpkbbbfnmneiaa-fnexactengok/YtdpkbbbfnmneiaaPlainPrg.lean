/- Which programs are ok, plainly. No program in it. -/
import Derived.Test.YtdpkbbbfnmneiaaPrg
import Derived.Test.YtdpkbbbfnmneiaaPlainIns
import Derived.Test.YtdpkbbbfnmneiaaPlainItv
namespace Go.Proofs.Ytdpkbbbfnmneiaa
/-- Step k is ok. -/
def stepOk (c : Nat → Nat → Int) (p s : Int) (k : Nat) : Bool := insOk (c k 0) (c k 1) (c k 2) (c k 3) (c k 4) (c k 5) (c k 6) (c k 7) p s
/-- The first k steps are ok. -/
def codeOk (c : Nat → Nat → Int) (p s : Int) : Nat → Bool
  | 0 => true
  | k + 1 => codeOk c p s k && stepOk c p s k
theorem codeOk_false {c : Nat → Nat → Int} {p s : Int} {k n : Nat} (h : k < n) (hk : stepOk c p s k = false) : codeOk c p s n = false := by
  induction n with
  | zero => omega
  | succ n ih =>
    rcases (show k < n ∨ k = n by omega) with h' | rfl
    · simp [codeOk, ih h']
    · simp [codeOk, hk]
def lastOk (o : Int) : Bool := decide (o = 12) || decide (o = 9)
/-- A procedure is ok, among so many. -/
def procOk (p : Proc) (procs : Int) : Bool := itvOk p.lo p.hi && inB p.n 1 10 && codeOk p.c procs p.n p.n && lastOk (p.c (p.n - 1) 0)
def procsOk (P : Nat → Proc) (procs : Int) : Nat → Bool
  | 0 => true
  | k + 1 => procsOk P procs k && procOk (P k) procs
theorem procsOk_false {P : Nat → Proc} {p : Int} {k n : Nat} (h : k < n) (hk : procOk (P k) p = false) : procsOk P p n = false := by
  induction n with
  | zero => omega
  | succ n ih =>
    rcases (show k < n ∨ k = n by omega) with h' | rfl
    · simp [procsOk, ih h']
    · simp [procsOk, hk]
def prgOk (P : Nat → Proc) (m : Nat) : Bool := inB m 1 4 && procsOk P m m
end Go.Proofs.Ytdpkbbbfnmneiaa
