/- What a program that is ok calls, plainly. No program in it. -/
import Derived.Test.YtndedplmcjfgeaaGrfP
import Derived.Test.YtndedplmcjfgeaaPlainPrg
namespace Go.Proofs.Ytndedplmcjfgeaa
theorem prg_m {P : Nat → Proc} {m : Nat} (h : prgOk P m = true) : 1 ≤ m ∧ m ≤ 4 := by
  simp only [prgOk, inB, Bool.and_eq_true, decide_eq_true_eq] at h
  omega
theorem procs_at {P : Nat → Proc} {p : Int} : ∀ {n i : Nat}, procsOk P p n = true → i < n → procOk (P i) p = true
  | n + 1, i, h, hi => by
    simp only [procsOk, Bool.and_eq_true] at h
    by_cases e : i = n
    · subst e; exact h.2
    · exact procs_at h.1 (by omega)
theorem prg_proc {P : Nat → Proc} {m i : Nat} (h : prgOk P m = true) (hi : i < m) : procOk (P i) m = true := by
  simp only [prgOk, Bool.and_eq_true] at h
  exact procs_at h.2 hi
theorem prg_n {P : Nat → Proc} {m i : Nat} (h : prgOk P m = true) (hi : i < m) : 1 ≤ (P i).n ∧ (P i).n ≤ 10 := by
  have := prg_proc h hi
  simp only [procOk, inB, Bool.and_eq_true, decide_eq_true_eq] at this
  omega
theorem code_at {c : Nat → Nat → Int} {p s : Int} : ∀ {n k : Nat}, codeOk c p s n = true → k < n → stepOk c p s k = true
  | n + 1, k, h, hk => by
    simp only [codeOk, Bool.and_eq_true] at h
    by_cases e : k = n
    · subst e; exact h.2
    · exact code_at h.1 (by omega)
theorem prg_step {P : Nat → Proc} {m i k : Nat} (h : prgOk P m = true) (hi : i < m) (hk : k < (P i).n) : stepOk (P i).c m (P i).n k = true := by
  have := prg_proc h hi
  simp only [procOk, Bool.and_eq_true] at this
  exact code_at this.1.2 hk
theorem call_to {c : Nat → Nat → Int} {p s : Int} {k : Nat} (h : stepOk c p s k = true) (h0 : c k 0 = 10) : 0 ≤ c k 7 ∧ c k 7 < p := by
  simp only [stepOk, insOk, Bool.and_eq_true] at h
  have h2 := h.2
  rw [h0] at h2
  simpa [hasB] using h2
def placeQ (n s : Int) : Bool := decide (0 ≤ n) && decide (n < s)
/-- What a procedure of a program calls. -/
def grfCalls (P : Nat → Proc) (m : Nat) (proc : Int) : List Int := if (prgOk P m && placeQ proc m) = true then callsTo (P proc.toNat).c (P proc.toNat).n else []
theorem calls_in {P : Nat → Proc} {m i : Nat} (h : prgOk P m = true) (hi : i < m) : ∀ x ∈ callsTo (P i).c (P i).n, 0 ≤ x ∧ x < m := fun x hx => by
  obtain ⟨j, h1, h2, h3⟩ := callsTo_mem.1 hx
  have := call_to (prg_step h hi h1) h2
  rwa [h3] at this
theorem grfCalls_len (P : Nat → Proc) (m : Nat) (proc : Int) : (grfCalls P m proc).length ≤ 4 := by
  unfold grfCalls
  split
  · rename_i h
    simp only [Bool.and_eq_true, placeQ, decide_eq_true_eq] at h
    have hm := prg_m h.1
    refine rise_len (m := 4) (lo := 0) (callsTo_rise _ _) (fun x hx => ?_)
    have := calls_in h.1 (i := proc.toNat) (by omega) x hx
    omega
  · simp
end Go.Proofs.Ytndedplmcjfgeaa
