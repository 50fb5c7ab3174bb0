/- Which runs are ok, plainly; lists of numbers, the program's and the model's. -/
import Derived.Test.YtndedplmcjfgeaaRun
import Derived.Test.YtndedplmcjfgeaaPrgC
import Derived.Test.YtndedplmcjfgeaaPlainPrg
import Derived.Test.YtndedplmcjfgeaaRisk
namespace Go.Proofs.Ytndedplmcjfgeaa
open Go.ChangeShapes Go.WideShapes Go.ChangeAt Go.RowKit

/-- The first k are numbers. -/
def numsB (z : Nat → Int) : Nat → Bool
  | 0 => true
  | k + 1 => numsB z k && okB (z k)
theorem numsB_false {z : Nat → Int} {k n : Nat} (h : k < n) (hk : okB (z k) = false) : numsB z n = false := by
  induction n with
  | zero => omega
  | succ n ih =>
    rcases (show k < n ∨ k = n by omega) with h' | rfl
    · simp [numsB, ih h']
    · simp [numsB, hk]
/-- So many as four, all numbers. -/
def four (z : Nat → Int) (n : Nat) : Bool := decide (n = 4) && numsB z n
def frmOk (P : Nat → Proc) (m : Nat) (f : Frm) : Bool := atB P m f.proc f.pc && four f.v f.nv && four f.c f.nc
/-- Where another call lies above, the step calls its procedure. -/
def linkB (P : Nat → Proc) (m : Nat) (F : Nat → Frm) (q k : Nat) : Bool := !decide (k + 1 < q) || (atC P m (F k).proc (F k).pc 0 == 10 && atC P m (F k).proc (F k).pc 7 == (F (k + 1)).proc)
def callB (P : Nat → Proc) (m : Nat) (F : Nat → Frm) (q k : Nat) : Bool := frmOk P m (F k) && linkB P m F q k
def callsB (P : Nat → Proc) (m : Nat) (F : Nat → Frm) (q : Nat) : Nat → Bool
  | 0 => true
  | k + 1 => callsB P m F q k && callB P m F q k
theorem callsB_false {P : Nat → Proc} {m : Nat} {F : Nat → Frm} {q k n : Nat} (h : k < n) (hk : callB P m F q k = false) : callsB P m F q n = false := by
  induction n with
  | zero => omega
  | succ n ih =>
    rcases (show k < n ∨ k = n by omega) with h' | rfl
    · simp [callsB, ih h']
    · simp [callsB, hk]
def nowB (pr pc : Int) : Bool := pr == 0 && pc == 0
def runOk (P : Nat → Proc) (m : Nat) (st out pr pc : Int) (q : Nat) (F : Nat → Frm) : Bool :=
  prgOk P m && okB out &&
    (if st = 1 then out == 0 && nowB pr pc && (inB q 1 5 && callsB P m F q q)
     else if st = 2 then nowB pr pc && decide (q = 0)
     else if st = 3 then out == 0 && (atB P m pr pc && riskB (atC P m pr pc 0)) && decide (q = 0)
     else if st = 4 then out == 0 && nowB pr pc && decide (q = 0)
     else false)
set_option maxHeartbeats 2000000 in
theorem numsS (a : Option Addr) (b off n cap : Nat) (z : Nat → Int) (w : World) (hn : n ≤ 1048576) (hC : IntsAt a b off n z w) :
    Calls Try.prog 74 #[.slice a n cap, .int .i64 4] w fun e w' => e = .returned (.bool (four z n)) ∧ w' = w := by
  by_cases h4 : n = 4
  case neg =>
    have e1 : ¬ (n : Int) = 4 := by omega
    have e2 : ((n : Int) == 4) = false := by simp [e1]
    have e3 : ((n : Int) != 4) = true := by simp [e1]
    have hR : four z n = false := by simp [four, h4]
    rw [hR]
    go_enter Try.func74, Try.ntmps74
    go_wp2
    go_ret
    exact ⟨rfl, rfl⟩
  subst h4
  have a1 := hC.at_ (by omega)
  subst a1
  have hR : Hid (four z 4 = numsB z 4) := by show (decide (4 = 4) && numsB z 4) = numsB z 4; simp
  go_enter Try.func74, Try.ntmps74
  go_wp2
  go_loopw [5] (fun i wr => ∃ k : Nat, k ≤ 4 ∧ i = .int .i64 k ∧ numsB z k = true ∧ wr = w) (fun i _ => 4 - (intOf i).toNat)
  case atStart => exact ⟨0, Nat.zero_le _, rfl, rfl, rfl⟩
  case round =>
    obtain ⟨k, hk, rfl, hnb, rfl⟩ := hrel
    have hnS : Hid (numsB z k = true) := hnb
    clear hnb
    by_cases hlt : k < 4
    · have c1 := hC.cell k hlt
      have t1 : ((k : Int)).toNat = k := by omega
      have t2 : (0 : Int) ≤ (k : Int) := by omega
      have t3 : (k : Int) < 4 := by omega
      generalize hx : z k = x at c1
      have hxS : Hid (z k = x) := hx
      clear hx hC
      go_wp2_with fail
      refine (okS _ _).mono ?_
      rintro e w1 ⟨rfl, rfl⟩
      cases ok : okB x
      · go_wp2_with fail
        go_ret
        exact ⟨ret_bool (by rw [hR.out]; exact (numsB_false hlt (by rw [hxS.out]; exact ok)).symm), rfl⟩
      · go_wp2_with fail
        go_roundw
        case rel => exact ⟨k + 1, by omega, by go_num, by show (numsB z k && okB (z k)) = true; rw [hnS.out, hxS.out, ok]; rfl, by first | rfl | trivial⟩
        case measure => simp [intOf]; omega
    · obtain rfl : k = 4 := by omega
      go_wp2_with fail
      go_ret
      exact ⟨ret_bool (by rw [hR.out, hnS.out]), rfl⟩
set_option maxHeartbeats 2000000 in
theorem numsI (a : Option Addr) (b off n cap : Nat) (z : Nat → Int) (w : World) (hn : n ≤ 1048576) (hC : IntsAt a b off n z w) :
    Calls Try.prog 76 #[.slice a n cap, .int .i64 4] w fun e w' => e = .returned (.bool (four z n)) ∧ w' = w := by
  go_enter Try.func76, Try.ntmps76
  go_wp2
  go_loopw [9] (fun i wr => ∃ k : Nat, k ≤ n ∧ i = .int .i64 k ∧ numsB z k = true ∧ wr = w) (fun i _ => n - (intOf i).toNat)
  case atStart => exact ⟨0, Nat.zero_le _, rfl, rfl, rfl⟩
  case round =>
    obtain ⟨k, hk, rfl, hnb, rfl⟩ := hrel
    have hnS : Hid (numsB z k = true) := hnb
    clear hnb
    by_cases hlt : k < n
    · have a1 := hC.at_ (by omega)
      subst a1
      have c1 := hC.cell k hlt
      have t1 : ((k : Int)).toNat = k := by omega
      have t2 : (0 : Int) ≤ (k : Int) := by omega
      have t3 : (k : Int) < (n : Int) := by omega
      generalize hx : z k = x at c1
      have hxS : Hid (z k = x) := hx
      clear hx hC
      go_wp2_with fail
      refine (okI _ _).mono ?_
      rintro e w1 ⟨rfl, rfl⟩
      cases ok : okB x
      · go_wp2_with fail
        go_ret
        exact ⟨ret_bool (by rw [four, numsB_false hlt (by rw [hxS.out]; exact ok)]; simp), rfl⟩
      · go_wp2_with fail
        go_roundw
        case rel => exact ⟨k + 1, by omega, by go_num, by show (numsB z k && okB (z k)) = true; rw [hnS.out, hxS.out, ok]; rfl, by first | rfl | trivial⟩
        case measure => simp [intOf]; omega
    · obtain rfl : k = n := by omega
      by_cases h4 : k = 4
      · subst h4
        go_wp2_with fail
        go_ret
        exact ⟨ret_bool (by simp [four, hnS.out]), rfl⟩
      · have e1 : ¬ (k : Int) = 4 := by omega
        have e2 : ((k : Int) == 4) = false := by simp [e1]
        go_wp2_with fail
        go_ret
        exact ⟨ret_bool (by simp [four, h4]), rfl⟩
end Go.Proofs.Ytndedplmcjfgeaa
