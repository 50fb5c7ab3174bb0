/- PrgSize and PrgAt, the model's and the program's: they answer what the plain functions say; they make memory of their own alone. -/
import Derived.Test.YtndedplmcjfgeaaPrgEq
import Derived.Test.YtndedplmcjfgeaaPlainIns
import Derived.Test.YtndedplmcjfgeaaStepI
namespace Go.Proofs.Ytndedplmcjfgeaa
open Go.ChangeShapes Go.WideShapes Go.ChangeAt Go.RowKit

theorem sizeTo_mono {P : Nat → Proc} {i m : Nat} (h : i ≤ m) : sizeTo P i ≤ sizeTo P m := by
  induction m with
  | zero => obtain rfl : i = 0 := by omega
            exact Nat.le_refl _
  | succ m ih =>
    rcases (show i ≤ m ∨ i = m + 1 by omega) with h' | rfl
    · have := ih h'
      simp only [sizeTo]; omega
    · exact Nat.le_refl _

set_option maxHeartbeats 2000000 in
theorem prgSizeS (a : Option Addr) (b off m cap : Nat) (P : Nat → Proc) (S : Nat → Spot) (w : World) (hm : m ≤ 1048576) (hs : sizeTo P m ≤ 1048576) (hP : ProcsAt a b off m P S w) :
    Calls Try.prog 11 #[.agg #[.slice a m cap]] w fun e w' => e = .returned (.int .i64 (sizeTo P m)) ∧ Below w.heap.size w w' := by
  have b0 : Below w.heap.size w (w.alloc (.cells #[.slice a m cap] 29)) := (Below.refl w.heap.size w).alloc (Nat.le_refl _) _
  have hP0 := hP.next b0
  clear hP
  go_enter Try.func11, Try.ntmps11
  go_wp2
  go_loop [3, 4] (fun q i => ∃ k : Nat, k ≤ m ∧ i = .int .i64 k ∧ q = .int .i64 (sizeTo P k)) (fun _ i => m - (intOf i).toNat)
  case atStart => exact ⟨0, Nat.zero_le _, rfl, rfl⟩
  case round =>
    obtain ⟨k, hk, rfl, rfl⟩ := hrel
    by_cases hlt : k < m
    · have e1 := hP0.at_ (by omega)
      have c2 := hP0.code k hlt
      have E : Hid (sizeTo P (k + 1) = sizeTo P k + (P k).n) := rfl
      have h1 : sizeTo P (k + 1) ≤ sizeTo P m := sizeTo_mono (by omega)
      have h2 : (sizeTo P k : Int) + ((P k).n : Int) ≤ 1048576 := by have := E.out; omega
      have h3 : (0 : Int) ≤ (sizeTo P k : Int) := by omega
      have h4 : (0 : Int) ≤ ((P k).n : Int) := by omega
      have t1 : ((k : Int)).toNat = k := by omega
      have t2 : (0 : Int) ≤ (k : Int) := by omega
      have t3 : (k : Int) < (m : Int) := by omega
      subst e1
      clear hP0
      go_wp2
      go_round
      case rel => exact ⟨k + 1, by omega, by go_num, by rw [E.out]; go_num⟩
      case measure => simp [intOf]; omega
    · obtain rfl : k = m := by omega
      clear hP0
      go_wp2
      go_ret
      exact ⟨rfl, b0⟩

set_option maxHeartbeats 2000000 in
theorem prgSizeI (a : Option Addr) (b off m cap : Nat) (P : Nat → Proc) (S : Nat → Spot) (w : World) (hm : m ≤ 1048576) (hs : sizeTo P m ≤ 1048576) (hP : ProcsAt a b off m P S w) :
    Calls Try.prog 13 #[.agg #[.slice a m cap]] w fun e w' => e = .returned (.int .i64 (sizeTo P m)) ∧ Below w.heap.size w w' := by
  have b0 : Below w.heap.size w (w.alloc (.cells #[.slice a m cap] 29)) := (Below.refl w.heap.size w).alloc (Nat.le_refl _) _
  go_enter Try.func13, Try.ntmps13
  go_wp2
  go_loopw [3, 9] (fun q i wr => ∃ k : Nat, k ≤ m ∧ i = .int .i64 k ∧ q = .int .i64 (sizeTo P k) ∧ Below w.heap.size w wr) (fun _ i _ => m - (intOf i).toNat)
  case atStart => exact ⟨0, Nat.zero_le _, rfl, rfl, b0⟩
  case round =>
    obtain ⟨k, hk, rfl, rfl, hB⟩ := hrel
    by_cases hlt : k < m
    · have hP0 := hP.next hB
      have e1 := hP0.at_ (by omega)
      have c0 := hP0.lo k hlt
      have c1 := hP0.hi k hlt
      have c2 := hP0.code k hlt
      have E : Hid (sizeTo P (k + 1) = sizeTo P k + (P k).n) := rfl
      have h1 : sizeTo P (k + 1) ≤ sizeTo P m := sizeTo_mono (by omega)
      have h2 : (sizeTo P k : Int) + ((P k).n : Int) ≤ 1048576 := by have := E.out; omega
      have h3 : (0 : Int) ≤ (sizeTo P k : Int) := by omega
      have h4 : (0 : Int) ≤ ((P k).n : Int) := by omega
      have t1 : ((k : Int)).toNat = k := by omega
      have t2 : (0 : Int) ≤ (k : Int) := by omega
      have t3 : (k : Int) < (m : Int) := by omega
      subst e1
      clear hP hP0
      go_wp2
      go_roundw
      case rel => exact ⟨k + 1, by omega, by go_num, by rw [E.out]; go_num, hB.alloc hB.size _⟩
      case measure => simp [intOf]; omega
    · obtain rfl : k = m := by omega
      clear hP
      go_wp2
      go_ret
      exact ⟨rfl, hB⟩

/-- There is a step at that place. -/
def atB (P : Nat → Proc) (m : Nat) (proc pc : Int) : Bool := decide (0 ≤ proc) && decide (proc < m) && decide (0 ≤ pc) && decide (pc < (P proc.toNat).n)
/-- Field j of the step at that place; 0 where there is none. -/
def atC (P : Nat → Proc) (m : Nat) (proc pc : Int) (j : Nat) : Int := if atB P m proc pc then (P proc.toNat).c pc.toNat j else 0
def AtV (P : Nat → Proc) (m : Nat) (proc pc : Int) : Value := .agg #[.int .i64 (atC P m proc pc 0), .int .i64 (atC P m proc pc 1), .int .i64 (atC P m proc pc 2), .int .i64 (atC P m proc pc 3), .int .i64 (atC P m proc pc 4), .int .i64 (atC P m proc pc 5), .int .i64 (atC P m proc pc 6), .int .i64 (atC P m proc pc 7)]
theorem atC_no {P : Nat → Proc} {m : Nat} {proc pc : Int} (h : atB P m proc pc = false) (j : Nat) : atC P m proc pc j = 0 := by simp [atC, h]
theorem atC_yes {P : Nat → Proc} {m k l : Nat} (h : atB P m k l = true) (j : Nat) : atC P m k l j = (P k).c l j := by simp [atC, h]

set_option maxHeartbeats 4000000 in
theorem prgAtS (a : Option Addr) (b off m cap : Nat) (P : Nat → Proc) (S : Nat → Spot) (proc pc : Int) (w : World) (hm : m ≤ 1048576) (hP : ProcsAt a b off m P S w) :
    Calls Try.prog 15 #[.agg #[.slice a m cap], .int .i64 proc, .int .i64 pc] w fun e w' => e = .returned (.tuple #[AtV P m proc pc, .bool (atB P m proc pc)]) ∧ Below w.heap.size w w' := by
  have b0 : Below w.heap.size w ((w.alloc (.cells #[.slice a m cap] 29)).alloc (.cells #[.int .i64 0, .int .i64 0, .int .i64 0, .int .i64 0, .int .i64 0, .int .i64 0, .int .i64 0, .int .i64 0] 34)) := by
    repeat (first | exact Below.refl _ _ | refine Below.alloc ?_ (by simp; try omega) _)
  have hP0 := hP.next b0
  clear hP
  by_cases h1 : proc < 0
  · have hB : atB P m proc pc = false := by simp [atB]; omega
    have hV : AtV P m proc pc = .agg #[.int .i64 0, .int .i64 0, .int .i64 0, .int .i64 0, .int .i64 0, .int .i64 0, .int .i64 0, .int .i64 0] := by simp [AtV, atC_no hB]
    rw [hB, hV]
    clear hB hV hP0
    go_enter Try.func15, Try.ntmps15
    go_wp2
    refine bodyPost_ret (v := .tuple #[.agg #[.int .i64 0, .int .i64 0, .int .i64 0, .int .i64 0, .int .i64 0, .int .i64 0, .int .i64 0, .int .i64 0], .bool false]) (by simp [results, Try.results15, go_sem]) rfl ⟨rfl, ?_⟩
    repeat (first | exact b0 | exact Below.refl _ _ | refine Below.alloc ?_ (by simp; try omega) _ | refine Below.setCell ?_ (by simp; try omega) _)
  obtain ⟨k, rfl⟩ : ∃ k : Nat, proc = k := ⟨proc.toNat, by omega⟩
  have t1 : ((k : Int)).toNat = k := by omega
  have t2 : (0 : Int) ≤ (k : Int) := by omega
  by_cases h2 : (m : Int) ≤ k
  · have hB : atB P m k pc = false := by simp [atB]; omega
    have hV : AtV P m k pc = .agg #[.int .i64 0, .int .i64 0, .int .i64 0, .int .i64 0, .int .i64 0, .int .i64 0, .int .i64 0, .int .i64 0] := by simp [AtV, atC_no hB]
    rw [hB, hV]
    clear hB hV hP0
    go_enter Try.func15, Try.ntmps15
    go_wp2
    refine bodyPost_ret (v := .tuple #[.agg #[.int .i64 0, .int .i64 0, .int .i64 0, .int .i64 0, .int .i64 0, .int .i64 0, .int .i64 0, .int .i64 0], .bool false]) (by simp [results, Try.results15, go_sem]) rfl ⟨rfl, ?_⟩
    repeat (first | exact b0 | exact Below.refl _ _ | refine Below.alloc ?_ (by simp; try omega) _ | refine Below.setCell ?_ (by simp; try omega) _)
  by_cases h3 : pc < 0
  · have hB : atB P m k pc = false := by simp [atB]; omega
    have hV : AtV P m k pc = .agg #[.int .i64 0, .int .i64 0, .int .i64 0, .int .i64 0, .int .i64 0, .int .i64 0, .int .i64 0, .int .i64 0] := by simp [AtV, atC_no hB]
    rw [hB, hV]
    clear hB hV hP0
    go_enter Try.func15, Try.ntmps15
    go_wp2
    refine bodyPost_ret (v := .tuple #[.agg #[.int .i64 0, .int .i64 0, .int .i64 0, .int .i64 0, .int .i64 0, .int .i64 0, .int .i64 0, .int .i64 0], .bool false]) (by simp [results, Try.results15, go_sem]) rfl ⟨rfl, ?_⟩
    repeat (first | exact b0 | exact Below.refl _ _ | refine Below.alloc ?_ (by simp; try omega) _ | refine Below.setCell ?_ (by simp; try omega) _)
  obtain ⟨l, rfl⟩ : ∃ l : Nat, pc = l := ⟨pc.toNat, by omega⟩
  have t3 : ((l : Int)).toNat = l := by omega
  have t4 : (0 : Int) ≤ (l : Int) := by omega
  have t5 : (k : Int) < (m : Int) := by omega
  have hk : k < m := by omega
  have e1 := hP0.at_ (by omega)
  have c2 := hP0.code k hk
  have hC := hP0.steps k hk
  subst e1
  clear hP0
  by_cases h4 : ((P k).n : Int) ≤ l
  · have hB : atB P m k l = false := by simp [atB, t1]; omega
    have hV : AtV P m k l = .agg #[.int .i64 0, .int .i64 0, .int .i64 0, .int .i64 0, .int .i64 0, .int .i64 0, .int .i64 0, .int .i64 0] := by simp [AtV, atC_no hB]
    rw [hB, hV]
    clear hB hV hC
    go_enter Try.func15, Try.ntmps15
    go_wp2
    refine bodyPost_ret (v := .tuple #[.agg #[.int .i64 0, .int .i64 0, .int .i64 0, .int .i64 0, .int .i64 0, .int .i64 0, .int .i64 0, .int .i64 0], .bool false]) (by simp [results, Try.results15, go_sem]) rfl ⟨rfl, ?_⟩
    repeat (first | exact b0 | exact Below.refl _ _ | refine Below.alloc ?_ (by simp; try omega) _ | refine Below.setCell ?_ (by simp; try omega) _)
  have hl : l < (P k).n := by omega
  have t6 : (l : Int) < ((P k).n : Int) := by omega
  have hB : atB P m k l = true := by simp [atB, t1]; omega
  have hV : AtV P m k l = .agg #[.int .i64 ((P k).c l 0), .int .i64 ((P k).c l 1), .int .i64 ((P k).c l 2), .int .i64 ((P k).c l 3), .int .i64 ((P k).c l 4), .int .i64 ((P k).c l 5), .int .i64 ((P k).c l 6), .int .i64 ((P k).c l 7)] := by simp [AtV, atC_yes hB]
  rw [hB, hV]
  have e2 := hC.at_ (by omega)
  have d0 := hC.cell l 0 hl (by omega)
  have d1 := hC.cell l 1 hl (by omega)
  have d2 := hC.cell l 2 hl (by omega)
  have d3 := hC.cell l 3 hl (by omega)
  have d4 := hC.cell l 4 hl (by omega)
  have d5 := hC.cell l 5 hl (by omega)
  have d6 := hC.cell l 6 hl (by omega)
  have d7 := hC.cell l 7 hl (by omega)
  rw [Nat.add_zero] at d0
  rw [e2] at c2
  clear hB hV hC e2
  generalize (P k).c l 0 = x0 at *
  generalize (P k).c l 1 = x1 at *
  generalize (P k).c l 2 = x2 at *
  generalize (P k).c l 3 = x3 at *
  generalize (P k).c l 4 = x4 at *
  generalize (P k).c l 5 = x5 at *
  generalize (P k).c l 6 = x6 at *
  generalize (P k).c l 7 = x7 at *
  go_enter Try.func15, Try.ntmps15
  go_wp2
  refine bodyPost_ret (v := .tuple #[.agg #[.int .i64 x0, .int .i64 x1, .int .i64 x2, .int .i64 x3, .int .i64 x4, .int .i64 x5, .int .i64 x6, .int .i64 x7], .bool true]) (by simp [results, Try.results15, go_sem]) rfl ⟨rfl, ?_⟩
  repeat (first | exact b0 | exact Below.refl _ _ | refine Below.alloc ?_ (by simp; try omega) _ | refine Below.setCell ?_ (by simp; try omega) _)
end Go.Proofs.Ytndedplmcjfgeaa
