/- Parts and papers that are ok, the model's and the program's: they answer what the plain partOk and crtOk say; they make memory of their own alone. -/
import Derived.Test.YtdpkbbbfnmneiaaStsEq
import Derived.BigGuard
namespace Go.Proofs.Ytdpkbbbfnmneiaa
open Go.ChangeShapes Go.WideShapes Go.ChangeAt Go.RowKit
set_option linter.unusedVariables false

/-- Place k of a part: a procedure that there is, behind the one ahead of it. -/
def partAt (m : Nat) (z : Nat → Int) (k : Nat) : Bool := placeB (z k) m && (decide (k = 0) || decide (z (k - 1) < z k))
def partTo (m : Nat) (z : Nat → Int) : Nat → Bool
  | 0 => true
  | k + 1 => partTo m z k && partAt m z k
theorem partTo_false {m : Nat} {z : Nat → Int} {k n : Nat} (h : k < n) (hk : partAt m z k = false) : partTo m z n = false := by
  induction n with
  | zero => omega
  | succ n ih =>
    rcases (show k < n ∨ k = n by omega) with h' | rfl
    · simp [partTo, ih h']
    · simp [partTo, hk]
theorem partTo_at {m : Nat} {z : Nat → Int} {k n : Nat} (h : k < n) (hk : partTo m z n = true) : partAt m z k = true := by
  cases g : partAt m z k
  · rw [partTo_false h g] at hk; cases hk
  · rfl
def partOk (P : Nat → Proc) (m n : Nat) (z : Nat → Int) : Bool := prgOk P m && (decide (0 < n) && partTo m z n)
def stOk (s : St) : Bool := absOk s.on s.n s.lo s.hi s.c s.d
def stsOk (X : Nat → St) : Nat → Bool
  | 0 => true
  | k + 1 => stsOk X k && stOk (X k)
theorem stsOk_false {X : Nat → St} {k n : Nat} (h : k < n) (hk : stOk (X k) = false) : stsOk X n = false := by
  induction n with
  | zero => omega
  | succ n ih =>
    rcases (show k < n ∨ k = n by omega) with h' | rfl
    · simp [stsOk, ih h']
    · simp [stsOk, hk]
def rowOk (P : Nat → Proc) (z : Nat → Int) (R : Nat → Rw) (k : Nat) : Bool := decide ((R k).n = (P (z k).toNat).n) && stsOk (R k).x (R k).n
def rwsTo (P : Nat → Proc) (z : Nat → Int) (R : Nat → Rw) : Nat → Bool
  | 0 => true
  | k + 1 => rwsTo P z R k && rowOk P z R k
theorem rwsTo_false {P : Nat → Proc} {z : Nat → Int} {R : Nat → Rw} {k n : Nat} (h : k < n) (hk : rowOk P z R k = false) : rwsTo P z R n = false := by
  induction n with
  | zero => omega
  | succ n ih =>
    rcases (show k < n ∨ k = n by omega) with h' | rfl
    · simp [rwsTo, ih h']
    · simp [rwsTo, hk]
/-- A paper of m' rows and n' sums is ok for a part of n procedures. -/
def crtOk (P : Nat → Proc) (m n : Nat) (z : Nat → Int) (m' : Nat) (R : Nat → Rw) (n' : Nat) (U : Nat → Sm) : Bool :=
  partOk P m n z && (decide (m' = n) && (decide (n' = n) && (rwsTo P z R n && smsOk U n)))
theorem hasPrcI (a : Option Addr) (b off m cap : Nat) (P : Nat → Proc) (S : Nat → Spot) (proc : Int) (w : World) (hm : m ≤ 1048576) (hn : ∀ i, i < m → (P i).n ≤ 1048576) (hP : ProcsAt a b off m P S w) :
    Calls Try.prog 91 #[.agg #[.slice a m cap], .int .i64 proc] w fun e w' => e = .returned (.bool (prgOk P m && placeB proc m)) ∧ Below w.heap.size w w' := by
  have H0 : HeldL w [(w.heap.size, [Value.slice a m cap])] (w.alloc (.cells #[.slice a m cap] 35)) := HeldL.newL (vs := [Value.slice a m cap]) (HeldL.nil w)
  have hP0 := hP.next H0.below
  clear hP
  go_enter Try.func91, Try.ntmps91
  go_wp2_with fail
  refine (prgOkI _ _ _ _ _ _ _ _ hm hn hP0).mono ?_
  rintro e w1 ⟨rfl, hb⟩
  have H1 := H0.next hb
  have c0 := H1.cell List.mem_cons_self (i := 0) rfl
  dsimp only at c0
  clear hP0 H0 hb hn
  cases g : prgOk P m
  · go_wp2_with fail
    go_ret
    exact ⟨ret_bool (by simp [g]), H1.below⟩
  · go_wp2_with (go_at_call 57; refine (placeI _ _ _).mono ?_; rintro e w' ⟨rfl, rfl⟩)
    go_ret
    exact ⟨ret_bool (by simp [g]), H1.below⟩

set_option maxRecDepth 10000 in
set_option maxHeartbeats 8000000 in
theorem partS (a : Option Addr) (b off m cap : Nat) (P : Nat → Proc) (S : Nat → Spot) (a1 : Option Addr) (b1 off1 n cap1 : Nat) (z : Nat → Int) (w : World) (hm : m ≤ 1048576) (hN : ∀ i, i < m → (P i).n ≤ 1048576) (hn : n ≤ 1048576) (hP : ProcsAt a b off m P S w) (hZ : IntsAt a1 b1 off1 n z w) :
    Calls Try.prog 42 #[.agg #[.slice a m cap], .slice a1 n cap1] w fun e w' => e = .returned (.bool (partOk P m n z)) ∧ Below w.heap.size w w' := by
  have H : HeldL w [(w.heap.size, [Value.slice a m cap])] (w.alloc (.cells #[.slice a m cap] 35)) := HeldL.newL (vs := [Value.slice a m cap]) (HeldL.nil w)
  obtain ⟨Lb, hLb⟩ : ∃ L, L = [(w.heap.size, [Value.slice a m cap])] := ⟨_, rfl⟩
  have m0 : (w.heap.size, [Value.slice a m cap]) ∈ Lb := by rw [hLb]; simp
  rw [← hLb] at H
  clear hLb
  have J := hZ.next H.below
  have Q := hP.next H.below
  clear hZ hP
  go_enter Try.func42, Try.ntmps42
  go_wp2_with fail
  refine (prgOkS _ _ _ _ _ _ _ _ hm hN Q).mono ?_
  rintro e w1 ⟨rfl, hb⟩
  replace H := H.next hb
  replace J := J.next hb
  clear hb Q hN hm
  cases g : prgOk P m
  · go_wp2_with fail
    go_ret
    exact ⟨ret_bool (by simp [partOk, g]), H.below⟩
  by_cases h0 : n = 0
  · subst h0
    go_wp2_with fail
    go_ret
    exact ⟨ret_bool (by simp [partOk]), H.below⟩
  have h0' : ¬ (n : Int) = 0 := by omega
  have e1 := J.at_ (by omega)
  subst e1
  have hR : Hid (partOk P m n z = partTo m z n) := (by simp [partOk, g, Nat.pos_of_ne_zero h0] : _ = _)
  clear g
  go_wp2_with fail
  clear h0'
  go_loopw [5] (fun i wr => ∃ k : Nat, k ≤ n ∧ i = .int .i64 k ∧ Hid (partTo m z k = true) ∧ HeldL w Lb wr ∧ IntsAt (some ⟨b1, off1, none⟩) b1 off1 n z wr) (fun i _ => n - (intOf i).toNat)
  case atStart => exact ⟨0, Nat.zero_le _, rfl, (rfl : _ = _), H, J⟩
  case round =>
    clear H J
    obtain ⟨k, hk, rfl, hO, H, J⟩ := hrel
    by_cases hlt : k < n
    · have t1 : ((k : Int)).toNat = k := by omega
      have t2 : (0 : Int) ≤ (k : Int) := by omega
      have t3 : (k : Int) < (n : Int) := by omega
      have hS0 : HX w wr Lb wr.drew := ⟨H.drew, (Below.refl _ wr).drew⟩
      clear H
      by_cases hA : z k < 0
      · have hAS : Hid (partAt m z k = false) := (by simp [partAt, placeB, show ¬ 0 ≤ z k by omega] : _ = _)
        go_wp2_with fail
        refine region_inv3 [(0, 20), (1, 21), (2, 22), (3, 23), (4, 24), (5, 25), (6, 26), (7, 27), (8, 28), (9, 29), (10, 30), (11, 31), (12, 32), (13, 33), (14, 34), (15, 35), (16, 36), (17, 37), (18, 38), (19, 39), (20, 40), (21, 41), (22, 42), (23, 43), (24, 44), (25, 45), (26, 46), (27, 47), (28, 48), (29, 49), (30, 50)]
          (fun j v _ => match j with
            | 0 => Is (.slice (some ⟨b1, off1, none⟩) n cap1) v
            | 1 => Is (.int .i64 k) v
            | 2 => Is (.pointer (some ⟨b1, off1 + k, none⟩)) v
            | 3 => Is (.int .i64 (z k)) v
            | 4 => Is (.bool true) v
            | 5 => Is (.bool true) v
            | 6 => Is (undef) v
            | 7 => Is (undef) v
            | 8 => Is (undef) v
            | 9 => Is (undef) v
            | 10 => Is (undef) v
            | 11 => Is (undef) v
            | 12 => Is (undef) v
            | 13 => Is (undef) v
            | 14 => Is (.bool true) v
            | 15 => Is (.bool true) v
            | 16 => Is (undef) v
            | 17 => Is (undef) v
            | 18 => Is (undef) v
            | 19 => Is (undef) v
            | 20 => Is (undef) v
            | 21 => Is (undef) v
            | 22 => Is (undef) v
            | 23 => Is (undef) v
            | 24 => Is (undef) v
            | 25 => Is (undef) v
            | 26 => Is (undef) v
            | 27 => Is (undef) v
            | 28 => Is (undef) v
            | 29 => Is (undef) v
            | 30 => Is (.bool true) v
            | _ => True)
          (fun _ W => HX w wr Lb W) TT
          (by kernel_rfl) (by kernel_rfl) (by kernel_rfl) (by kernel_rfl) (by kernel_rfl) rfl hS0 (fun i j v W W' _ h _ => h) ?_ ?_
        · intro i L vals W hi' hφ hS hL hd
          have hi2 : i < 31 := hi'
          clear hi'
          rcases (show i = 0 ∨ i = 1 ∨ i = 2 ∨ i = 3 ∨ i = 4 ∨ i = 5 ∨ i = 6 ∨ i = 7 ∨ i = 8 ∨ i = 9 ∨ i = 10 ∨ i = 11 ∨ i = 12 ∨ i = 13 ∨ i = 14 ∨ i = 15 ∨ i = 16 ∨ i = 17 ∨ i = 18 ∨ i = 19 ∨ i = 20 ∨ i = 21 ∨ i = 22 ∨ i = 23 ∨ i = 24 ∨ i = 25 ∨ i = 26 ∨ i = 27 ∨ i = 28 ∨ i = 29 ∨ i = 30 by omega) with rfl | rfl | rfl | rfl | rfl | rfl | rfl | rfl | rfl | rfl | rfl | rfl | rfl | rfl | rfl | rfl | rfl | rfl | rfl | rfl | rfl | rfl | rfl | rfl | rfl | rfl | rfl | rfl | rfl | rfl | rfl
          · refine wpAt_of rfl rfl ?_
            simp only [frOf, Act.put]
            go_wp2_with fail
            first | exact ⟨trivial, rfl, trivial, hS⟩ | exact ⟨rfl, trivial, hS⟩ | exact ⟨trivial, rfl, trivial⟩ | exact ⟨rfl, trivial⟩ | exact rfl
          · refine wpAt_of rfl rfl ?_
            simp only [frOf, Act.put]
            go_wp2_with fail
            first | exact ⟨trivial, rfl, trivial, hS⟩ | exact ⟨rfl, trivial, hS⟩ | exact ⟨trivial, rfl, trivial⟩ | exact ⟨rfl, trivial⟩ | exact rfl
          · have k0 : vals 0 = .slice (some ⟨b1, off1, none⟩) n cap1 := hφ 0 (hd 0 (by decide))
            have k1 : vals 1 = .int .i64 k := hφ 1 (hd 1 (by decide))
            refine wpAt_of rfl rfl ?_
            simp only [frOf, Act.put]
            go_wp2_with fail
            first | exact ⟨trivial, rfl, trivial, hS⟩ | exact ⟨rfl, trivial, hS⟩ | exact ⟨trivial, rfl, trivial⟩ | exact ⟨rfl, trivial⟩ | exact rfl
          · have k2 : vals 2 = .pointer (some ⟨b1, off1 + k, none⟩) := hφ 2 (hd 2 (by decide))
            have d0 := (J.next hS.beh).cell k hlt
            refine wpAt_of rfl rfl ?_
            simp only [frOf, Act.put]
            go_wp2_with fail
            first | exact ⟨trivial, rfl, trivial, hS⟩ | exact ⟨rfl, trivial, hS⟩ | exact ⟨trivial, rfl, trivial⟩ | exact ⟨rfl, trivial⟩ | exact rfl
          · have k3 : vals 3 = .int .i64 (z k) := hφ 3 (hd 3 (by decide))
            refine wpAt_of rfl rfl ?_
            simp only [frOf, Act.put]
            go_wp2_with fail
            first | exact ⟨trivial, rfl, trivial, hS⟩ | exact ⟨rfl, trivial, hS⟩ | exact ⟨trivial, rfl, trivial⟩ | exact ⟨rfl, trivial⟩ | exact rfl
          · have k4 : vals 4 = .bool true := hφ 4 (hd 4 (by decide))
            refine wpAt_of rfl rfl ?_
            simp only [frOf, Act.put]
            go_wp2_with fail
            first | exact ⟨trivial, rfl, trivial, hS⟩ | exact ⟨rfl, trivial, hS⟩ | exact ⟨trivial, rfl, trivial⟩ | exact ⟨rfl, trivial⟩ | exact rfl
          · have k5 : vals 5 = .bool true := hφ 5 (hd 5 (by decide))
            simp only [wpAt, List.getElem?_toArray, List.getElem?_cons_succ, List.getElem?_cons_zero, slotOf, frOf, Act.put]
            go_wp2_with fail
            first | exact ⟨trivial, rfl, trivial, hS⟩ | exact ⟨rfl, trivial, hS⟩ | exact ⟨trivial, rfl, trivial⟩ | exact ⟨rfl, trivial⟩ | exact rfl
          · have k5 : vals 5 = .bool true := hφ 5 (hd 5 (by decide))
            simp only [wpAt, List.getElem?_toArray, List.getElem?_cons_succ, List.getElem?_cons_zero, slotOf, frOf, Act.put]
            go_wp2_with fail
            first | exact ⟨trivial, rfl, trivial, hS⟩ | exact ⟨rfl, trivial, hS⟩ | exact ⟨trivial, rfl, trivial⟩ | exact ⟨rfl, trivial⟩ | exact rfl
          · have k5 : vals 5 = .bool true := hφ 5 (hd 5 (by decide))
            have k6 : vals 6 = undef := hφ 6 (hd 6 (by decide))
            have k7 : vals 7 = undef := hφ 7 (hd 7 (by decide))
            simp only [wpAt, List.getElem?_toArray, List.getElem?_cons_succ, List.getElem?_cons_zero, slotOf, frOf, Act.put]
            go_wp2_with fail
            first | exact ⟨trivial, rfl, trivial, hS⟩ | exact ⟨rfl, trivial, hS⟩ | exact ⟨trivial, rfl, trivial⟩ | exact ⟨rfl, trivial⟩ | exact rfl
          · have k5 : vals 5 = .bool true := hφ 5 (hd 5 (by decide))
            have k8 : vals 8 = undef := hφ 8 (hd 8 (by decide))
            simp only [wpAt, List.getElem?_toArray, List.getElem?_cons_succ, List.getElem?_cons_zero, slotOf, frOf, Act.put]
            go_wp2_with fail
            first | exact ⟨trivial, rfl, trivial, hS⟩ | exact ⟨rfl, trivial, hS⟩ | exact ⟨trivial, rfl, trivial⟩ | exact ⟨rfl, trivial⟩ | exact rfl
          · have k5 : vals 5 = .bool true := hφ 5 (hd 5 (by decide))
            simp only [wpAt, List.getElem?_toArray, List.getElem?_cons_succ, List.getElem?_cons_zero, slotOf, frOf, Act.put]
            go_wp2_with fail
            first | exact ⟨trivial, rfl, trivial, hS⟩ | exact ⟨rfl, trivial, hS⟩ | exact ⟨trivial, rfl, trivial⟩ | exact ⟨rfl, trivial⟩ | exact rfl
          · have k5 : vals 5 = .bool true := hφ 5 (hd 5 (by decide))
            have k10 : vals 10 = undef := hφ 10 (hd 10 (by decide))
            simp only [wpAt, List.getElem?_toArray, List.getElem?_cons_succ, List.getElem?_cons_zero, slotOf, frOf, Act.put]
            go_wp2_with fail
            first | exact ⟨trivial, rfl, trivial, hS⟩ | exact ⟨rfl, trivial, hS⟩ | exact ⟨trivial, rfl, trivial⟩ | exact ⟨rfl, trivial⟩ | exact rfl
          · have k5 : vals 5 = .bool true := hφ 5 (hd 5 (by decide))
            have k11 : vals 11 = undef := hφ 11 (hd 11 (by decide))
            simp only [wpAt, List.getElem?_toArray, List.getElem?_cons_succ, List.getElem?_cons_zero, slotOf, frOf, Act.put]
            go_wp2_with fail
            first | exact ⟨trivial, rfl, trivial, hS⟩ | exact ⟨rfl, trivial, hS⟩ | exact ⟨trivial, rfl, trivial⟩ | exact ⟨rfl, trivial⟩ | exact rfl
          · have k5 : vals 5 = .bool true := hφ 5 (hd 5 (by decide))
            have k9 : vals 9 = undef := hφ 9 (hd 9 (by decide))
            have k12 : vals 12 = undef := hφ 12 (hd 12 (by decide))
            simp only [wpAt, List.getElem?_toArray, List.getElem?_cons_succ, List.getElem?_cons_zero, slotOf, frOf, Act.put]
            go_wp2_with fail
            first | exact ⟨trivial, rfl, trivial, hS⟩ | exact ⟨rfl, trivial, hS⟩ | exact ⟨trivial, rfl, trivial⟩ | exact ⟨rfl, trivial⟩ | exact rfl
          · have k5 : vals 5 = .bool true := hφ 5 (hd 5 (by decide))
            have k13 : vals 13 = undef := hφ 13 (hd 13 (by decide))
            refine wpAt_of rfl rfl ?_
            simp only [frOf, Act.put]
            go_wp2_with fail
            first | exact ⟨trivial, rfl, trivial, hS⟩ | exact ⟨rfl, trivial, hS⟩ | exact ⟨trivial, rfl, trivial⟩ | exact ⟨rfl, trivial⟩ | exact rfl
          · have k14 : vals 14 = .bool true := hφ 14 (hd 14 (by decide))
            refine wpAt_of rfl rfl ?_
            simp only [frOf, Act.put]
            go_wp2_with fail
            first | exact ⟨trivial, rfl, trivial, hS⟩ | exact ⟨rfl, trivial, hS⟩ | exact ⟨trivial, rfl, trivial⟩ | exact ⟨rfl, trivial⟩ | exact rfl
          · have k15 : vals 15 = .bool true := hφ 15 (hd 15 (by decide))
            simp only [wpAt, List.getElem?_toArray, List.getElem?_cons_succ, List.getElem?_cons_zero, slotOf, frOf, Act.put]
            go_wp2_with fail
            first | exact ⟨trivial, rfl, trivial, hS⟩ | exact ⟨rfl, trivial, hS⟩ | exact ⟨trivial, rfl, trivial⟩ | exact ⟨rfl, trivial⟩ | exact rfl
          · have k15 : vals 15 = .bool true := hφ 15 (hd 15 (by decide))
            have k16 : vals 16 = undef := hφ 16 (hd 16 (by decide))
            simp only [wpAt, List.getElem?_toArray, List.getElem?_cons_succ, List.getElem?_cons_zero, slotOf, frOf, Act.put]
            go_wp2_with fail
            first | exact ⟨trivial, rfl, trivial, hS⟩ | exact ⟨rfl, trivial, hS⟩ | exact ⟨trivial, rfl, trivial⟩ | exact ⟨rfl, trivial⟩ | exact rfl
          · have k15 : vals 15 = .bool true := hφ 15 (hd 15 (by decide))
            have k17 : vals 17 = undef := hφ 17 (hd 17 (by decide))
            simp only [wpAt, List.getElem?_toArray, List.getElem?_cons_succ, List.getElem?_cons_zero, slotOf, frOf, Act.put]
            go_wp2_with fail
            first | exact ⟨trivial, rfl, trivial, hS⟩ | exact ⟨rfl, trivial, hS⟩ | exact ⟨trivial, rfl, trivial⟩ | exact ⟨rfl, trivial⟩ | exact rfl
          · have k18 : vals 18 = undef := hφ 18 (hd 18 (by decide))
            simp only [wpAt, List.getElem?_toArray, List.getElem?_cons_succ, List.getElem?_cons_zero, slotOf, frOf, Act.put, List.setIfInBounds_toArray, List.set_cons_succ, List.set_cons_zero, k18]
            go_big_skip
            go_wp2_with fail
            first | exact ⟨trivial, rfl, trivial, hS⟩ | exact ⟨rfl, trivial, hS⟩ | exact ⟨trivial, rfl, trivial⟩ | exact ⟨rfl, trivial⟩ | exact rfl
          · have k18 : vals 18 = undef := hφ 18 (hd 18 (by decide))
            simp only [wpAt, List.getElem?_toArray, List.getElem?_cons_succ, List.getElem?_cons_zero, slotOf, frOf, Act.put, List.setIfInBounds_toArray, List.set_cons_succ, List.set_cons_zero, k18]
            go_big_skip
            go_wp2_with fail
            first | exact ⟨trivial, rfl, trivial, hS⟩ | exact ⟨rfl, trivial, hS⟩ | exact ⟨trivial, rfl, trivial⟩ | exact ⟨rfl, trivial⟩ | exact rfl
          · have k18 : vals 18 = undef := hφ 18 (hd 18 (by decide))
            have k20 : vals 20 = undef := hφ 20 (hd 20 (by decide))
            simp only [wpAt, List.getElem?_toArray, List.getElem?_cons_succ, List.getElem?_cons_zero, slotOf, frOf, Act.put, List.setIfInBounds_toArray, List.set_cons_succ, List.set_cons_zero, k18]
            go_big_skip
            go_wp2_with fail
            first | exact ⟨trivial, rfl, trivial, hS⟩ | exact ⟨rfl, trivial, hS⟩ | exact ⟨trivial, rfl, trivial⟩ | exact ⟨rfl, trivial⟩ | exact rfl
          · have k18 : vals 18 = undef := hφ 18 (hd 18 (by decide))
            have k19 : vals 19 = undef := hφ 19 (hd 19 (by decide))
            have k21 : vals 21 = undef := hφ 21 (hd 21 (by decide))
            simp only [wpAt, List.getElem?_toArray, List.getElem?_cons_succ, List.getElem?_cons_zero, slotOf, frOf, Act.put, List.setIfInBounds_toArray, List.set_cons_succ, List.set_cons_zero, k18]
            go_big_skip
            go_wp2_with fail
            first | exact ⟨trivial, rfl, trivial, hS⟩ | exact ⟨rfl, trivial, hS⟩ | exact ⟨trivial, rfl, trivial⟩ | exact ⟨rfl, trivial⟩ | exact rfl
          · have k18 : vals 18 = undef := hφ 18 (hd 18 (by decide))
            have k22 : vals 22 = undef := hφ 22 (hd 22 (by decide))
            simp only [wpAt, List.getElem?_toArray, List.getElem?_cons_succ, List.getElem?_cons_zero, slotOf, frOf, Act.put, List.setIfInBounds_toArray, List.set_cons_succ, List.set_cons_zero, k18]
            go_big_skip
            go_wp2_with fail
            first | exact ⟨trivial, rfl, trivial, hS⟩ | exact ⟨rfl, trivial, hS⟩ | exact ⟨trivial, rfl, trivial⟩ | exact ⟨rfl, trivial⟩ | exact rfl
          · have k18 : vals 18 = undef := hφ 18 (hd 18 (by decide))
            simp only [wpAt, List.getElem?_toArray, List.getElem?_cons_succ, List.getElem?_cons_zero, slotOf, frOf, Act.put, List.setIfInBounds_toArray, List.set_cons_succ, List.set_cons_zero, k18]
            go_big_skip
            go_wp2_with fail
            first | exact ⟨trivial, rfl, trivial, hS⟩ | exact ⟨rfl, trivial, hS⟩ | exact ⟨trivial, rfl, trivial⟩ | exact ⟨rfl, trivial⟩ | exact rfl
          · have k18 : vals 18 = undef := hφ 18 (hd 18 (by decide))
            simp only [wpAt, List.getElem?_toArray, List.getElem?_cons_succ, List.getElem?_cons_zero, slotOf, frOf, Act.put, List.setIfInBounds_toArray, List.set_cons_succ, List.set_cons_zero, k18]
            go_big_skip
            go_wp2_with fail
            first | exact ⟨trivial, rfl, trivial, hS⟩ | exact ⟨rfl, trivial, hS⟩ | exact ⟨trivial, rfl, trivial⟩ | exact ⟨rfl, trivial⟩ | exact rfl
          · have k18 : vals 18 = undef := hφ 18 (hd 18 (by decide))
            have k24 : vals 24 = undef := hφ 24 (hd 24 (by decide))
            have k25 : vals 25 = undef := hφ 25 (hd 25 (by decide))
            simp only [wpAt, List.getElem?_toArray, List.getElem?_cons_succ, List.getElem?_cons_zero, slotOf, frOf, Act.put, List.setIfInBounds_toArray, List.set_cons_succ, List.set_cons_zero, k18]
            go_big_skip
            go_wp2_with fail
            first | exact ⟨trivial, rfl, trivial, hS⟩ | exact ⟨rfl, trivial, hS⟩ | exact ⟨trivial, rfl, trivial⟩ | exact ⟨rfl, trivial⟩ | exact rfl
          · have k18 : vals 18 = undef := hφ 18 (hd 18 (by decide))
            have k26 : vals 26 = undef := hφ 26 (hd 26 (by decide))
            simp only [wpAt, List.getElem?_toArray, List.getElem?_cons_succ, List.getElem?_cons_zero, slotOf, frOf, Act.put, List.setIfInBounds_toArray, List.set_cons_succ, List.set_cons_zero, k18]
            go_big_skip
            go_wp2_with fail
            first | exact ⟨trivial, rfl, trivial, hS⟩ | exact ⟨rfl, trivial, hS⟩ | exact ⟨trivial, rfl, trivial⟩ | exact ⟨rfl, trivial⟩ | exact rfl
          · have k18 : vals 18 = undef := hφ 18 (hd 18 (by decide))
            have k23 : vals 23 = undef := hφ 23 (hd 23 (by decide))
            have k27 : vals 27 = undef := hφ 27 (hd 27 (by decide))
            simp only [wpAt, List.getElem?_toArray, List.getElem?_cons_succ, List.getElem?_cons_zero, slotOf, frOf, Act.put, List.setIfInBounds_toArray, List.set_cons_succ, List.set_cons_zero, k18]
            go_big_skip
            go_wp2_with fail
            first | exact ⟨trivial, rfl, trivial, hS⟩ | exact ⟨rfl, trivial, hS⟩ | exact ⟨trivial, rfl, trivial⟩ | exact ⟨rfl, trivial⟩ | exact rfl
          · have k15 : vals 15 = .bool true := hφ 15 (hd 15 (by decide))
            have k18 : vals 18 = undef := hφ 18 (hd 18 (by decide))
            have k28 : vals 28 = undef := hφ 28 (hd 28 (by decide))
            simp only [wpAt, List.getElem?_toArray, List.getElem?_cons_succ, List.getElem?_cons_zero, slotOf, frOf, Act.put]
            go_wp2_with fail
            first | exact ⟨trivial, rfl, trivial, hS⟩ | exact ⟨rfl, trivial, hS⟩ | exact ⟨trivial, rfl, trivial⟩ | exact ⟨rfl, trivial⟩ | exact rfl
          · have k15 : vals 15 = .bool true := hφ 15 (hd 15 (by decide))
            have k29 : vals 29 = undef := hφ 29 (hd 29 (by decide))
            refine wpAt_of rfl rfl ?_
            simp only [frOf, Act.put]
            go_wp2_with fail
            first | exact ⟨trivial, rfl, trivial, hS⟩ | exact ⟨rfl, trivial, hS⟩ | exact ⟨trivial, rfl, trivial⟩ | exact ⟨rfl, trivial⟩ | exact rfl
        · intro L vals W hall hφ hS
          have k0 : vals 0 = .slice (some ⟨b1, off1, none⟩) n cap1 := hφ 0 (by decide)
          have k1 : vals 1 = .int .i64 k := hφ 1 (by decide)
          have k2 : vals 2 = .pointer (some ⟨b1, off1 + k, none⟩) := hφ 2 (by decide)
          have k3 : vals 3 = .int .i64 (z k) := hφ 3 (by decide)
          have k4 : vals 4 = .bool true := hφ 4 (by decide)
          have k5 : vals 5 = .bool true := hφ 5 (by decide)
          have k6 : vals 6 = undef := hφ 6 (by decide)
          have k7 : vals 7 = undef := hφ 7 (by decide)
          have k8 : vals 8 = undef := hφ 8 (by decide)
          have k9 : vals 9 = undef := hφ 9 (by decide)
          have k10 : vals 10 = undef := hφ 10 (by decide)
          have k11 : vals 11 = undef := hφ 11 (by decide)
          have k12 : vals 12 = undef := hφ 12 (by decide)
          have k13 : vals 13 = undef := hφ 13 (by decide)
          have k14 : vals 14 = .bool true := hφ 14 (by decide)
          have k15 : vals 15 = .bool true := hφ 15 (by decide)
          have k16 : vals 16 = undef := hφ 16 (by decide)
          have k17 : vals 17 = undef := hφ 17 (by decide)
          have k18 : vals 18 = undef := hφ 18 (by decide)
          have k19 : vals 19 = undef := hφ 19 (by decide)
          have k20 : vals 20 = undef := hφ 20 (by decide)
          have k21 : vals 21 = undef := hφ 21 (by decide)
          have k22 : vals 22 = undef := hφ 22 (by decide)
          have k23 : vals 23 = undef := hφ 23 (by decide)
          have k24 : vals 24 = undef := hφ 24 (by decide)
          have k25 : vals 25 = undef := hφ 25 (by decide)
          have k26 : vals 26 = undef := hφ 26 (by decide)
          have k27 : vals 27 = undef := hφ 27 (by decide)
          have k28 : vals 28 = undef := hφ 28 (by decide)
          have k29 : vals 29 = undef := hφ 29 (by decide)
          have k30 : vals 30 = .bool true := hφ 30 (by decide)
          simp only [frOf, Act.put, List.setIfInBounds_toArray, List.set_cons_succ, List.set_cons_zero, k0, k1, k2, k3, k4, k5, k6, k7, k8, k9, k10, k11, k12, k13, k14, k15, k16, k17, k18, k19, k20, k21, k22, k23, k24, k25, k26, k27, k28, k29, k30]
          clear k0 k1 k2 k3 k4 k5 k6 k7 k8 k9 k10 k11 k12 k13 k14 k15 k16 k17 k18 k19 k20 k21 k22 k23 k24 k25 k26 k27 k28 k29 k30 hall hφ hS0
          have H := hS.1
          clear hS
          go_wp2_with fail
          go_ret
          exact ⟨ret_bool (by rw [hR.out, partTo_false hlt (hAS.out)]), H.below⟩
      have hAd : decide (z k < 0) = false := by simp; omega
      by_cases hB : (m : Int) ≤ z k
      · have hAS : Hid (partAt m z k = false) := (by simp [partAt, placeB, show ¬ z k < (m : Int) by omega] : _ = _)
        go_wp2_with fail
        refine region_inv3 [(0, 20), (1, 21), (2, 22), (3, 23), (4, 24), (5, 25), (6, 26), (7, 27), (8, 28), (9, 29), (10, 30), (11, 31), (12, 32), (13, 33), (14, 34), (15, 35), (16, 36), (17, 37), (18, 38), (19, 39), (20, 40), (21, 41), (22, 42), (23, 43), (24, 44), (25, 45), (26, 46), (27, 47), (28, 48), (29, 49), (30, 50)]
          (fun j v _ => match j with
            | 0 => Is (.slice (some ⟨b1, off1, none⟩) n cap1) v
            | 1 => Is (.int .i64 k) v
            | 2 => Is (.pointer (some ⟨b1, off1 + k, none⟩)) v
            | 3 => Is (.int .i64 (z k)) v
            | 4 => Is (.bool false) v
            | 5 => Is (.bool false) v
            | 6 => Is (.slice (some ⟨b1, off1, none⟩) n cap1) v
            | 7 => Is (.int .i64 k) v
            | 8 => Is (.pointer (some ⟨b1, off1 + k, none⟩)) v
            | 9 => Is (.int .i64 (z k)) v
            | 10 => Is (.pointer (some ⟨w.heap.size, 0, none⟩)) v
            | 11 => Is (.slice a m cap) v
            | 12 => Is (.int .i64 m) v
            | 13 => Is (.bool true) v
            | 14 => Is (.bool true) v
            | 15 => Is (.bool true) v
            | 16 => Is (undef) v
            | 17 => Is (undef) v
            | 18 => Is (undef) v
            | 19 => Is (undef) v
            | 20 => Is (undef) v
            | 21 => Is (undef) v
            | 22 => Is (undef) v
            | 23 => Is (undef) v
            | 24 => Is (undef) v
            | 25 => Is (undef) v
            | 26 => Is (undef) v
            | 27 => Is (undef) v
            | 28 => Is (undef) v
            | 29 => Is (undef) v
            | 30 => Is (.bool true) v
            | _ => True)
          (fun _ W => HX w wr Lb W) TT
          (by kernel_rfl) (by kernel_rfl) (by kernel_rfl) (by kernel_rfl) (by kernel_rfl) rfl hS0 (fun i j v W W' _ h _ => h) ?_ ?_
        · intro i L vals W hi' hφ hS hL hd
          have hi2 : i < 31 := hi'
          clear hi'
          rcases (show i = 0 ∨ i = 1 ∨ i = 2 ∨ i = 3 ∨ i = 4 ∨ i = 5 ∨ i = 6 ∨ i = 7 ∨ i = 8 ∨ i = 9 ∨ i = 10 ∨ i = 11 ∨ i = 12 ∨ i = 13 ∨ i = 14 ∨ i = 15 ∨ i = 16 ∨ i = 17 ∨ i = 18 ∨ i = 19 ∨ i = 20 ∨ i = 21 ∨ i = 22 ∨ i = 23 ∨ i = 24 ∨ i = 25 ∨ i = 26 ∨ i = 27 ∨ i = 28 ∨ i = 29 ∨ i = 30 by omega) with rfl | rfl | rfl | rfl | rfl | rfl | rfl | rfl | rfl | rfl | rfl | rfl | rfl | rfl | rfl | rfl | rfl | rfl | rfl | rfl | rfl | rfl | rfl | rfl | rfl | rfl | rfl | rfl | rfl | rfl | rfl
          · refine wpAt_of rfl rfl ?_
            simp only [frOf, Act.put]
            go_wp2_with fail
            first | exact ⟨trivial, rfl, trivial, hS⟩ | exact ⟨rfl, trivial, hS⟩ | exact ⟨trivial, rfl, trivial⟩ | exact ⟨rfl, trivial⟩ | exact rfl
          · refine wpAt_of rfl rfl ?_
            simp only [frOf, Act.put]
            go_wp2_with fail
            first | exact ⟨trivial, rfl, trivial, hS⟩ | exact ⟨rfl, trivial, hS⟩ | exact ⟨trivial, rfl, trivial⟩ | exact ⟨rfl, trivial⟩ | exact rfl
          · have k0 : vals 0 = .slice (some ⟨b1, off1, none⟩) n cap1 := hφ 0 (hd 0 (by decide))
            have k1 : vals 1 = .int .i64 k := hφ 1 (hd 1 (by decide))
            refine wpAt_of rfl rfl ?_
            simp only [frOf, Act.put]
            go_wp2_with fail
            first | exact ⟨trivial, rfl, trivial, hS⟩ | exact ⟨rfl, trivial, hS⟩ | exact ⟨trivial, rfl, trivial⟩ | exact ⟨rfl, trivial⟩ | exact rfl
          · have k2 : vals 2 = .pointer (some ⟨b1, off1 + k, none⟩) := hφ 2 (hd 2 (by decide))
            have d0 := (J.next hS.beh).cell k hlt
            refine wpAt_of rfl rfl ?_
            simp only [frOf, Act.put]
            go_wp2_with fail
            first | exact ⟨trivial, rfl, trivial, hS⟩ | exact ⟨rfl, trivial, hS⟩ | exact ⟨trivial, rfl, trivial⟩ | exact ⟨rfl, trivial⟩ | exact rfl
          · have k3 : vals 3 = .int .i64 (z k) := hφ 3 (hd 3 (by decide))
            refine wpAt_of rfl rfl ?_
            simp only [frOf, Act.put]
            go_wp2_with fail
            first | exact ⟨trivial, rfl, trivial, hS⟩ | exact ⟨rfl, trivial, hS⟩ | exact ⟨trivial, rfl, trivial⟩ | exact ⟨rfl, trivial⟩ | exact rfl
          · have k4 : vals 4 = .bool false := hφ 4 (hd 4 (by decide))
            refine wpAt_of rfl rfl ?_
            simp only [frOf, Act.put]
            go_wp2_with fail
            first | exact ⟨trivial, rfl, trivial, hS⟩ | exact ⟨rfl, trivial, hS⟩ | exact ⟨trivial, rfl, trivial⟩ | exact ⟨rfl, trivial⟩ | exact rfl
          · have k5 : vals 5 = .bool false := hφ 5 (hd 5 (by decide))
            simp only [wpAt, List.getElem?_toArray, List.getElem?_cons_succ, List.getElem?_cons_zero, slotOf, frOf, Act.put]
            go_wp2_with fail
            first | exact ⟨trivial, rfl, trivial, hS⟩ | exact ⟨rfl, trivial, hS⟩ | exact ⟨trivial, rfl, trivial⟩ | exact ⟨rfl, trivial⟩ | exact rfl
          · have k5 : vals 5 = .bool false := hφ 5 (hd 5 (by decide))
            simp only [wpAt, List.getElem?_toArray, List.getElem?_cons_succ, List.getElem?_cons_zero, slotOf, frOf, Act.put]
            go_wp2_with fail
            first | exact ⟨trivial, rfl, trivial, hS⟩ | exact ⟨rfl, trivial, hS⟩ | exact ⟨trivial, rfl, trivial⟩ | exact ⟨rfl, trivial⟩ | exact rfl
          · have k5 : vals 5 = .bool false := hφ 5 (hd 5 (by decide))
            have k6 : vals 6 = .slice (some ⟨b1, off1, none⟩) n cap1 := hφ 6 (hd 6 (by decide))
            have k7 : vals 7 = .int .i64 k := hφ 7 (hd 7 (by decide))
            simp only [wpAt, List.getElem?_toArray, List.getElem?_cons_succ, List.getElem?_cons_zero, slotOf, frOf, Act.put]
            go_wp2_with fail
            first | exact ⟨trivial, rfl, trivial, hS⟩ | exact ⟨rfl, trivial, hS⟩ | exact ⟨trivial, rfl, trivial⟩ | exact ⟨rfl, trivial⟩ | exact rfl
          · have k5 : vals 5 = .bool false := hφ 5 (hd 5 (by decide))
            have k8 : vals 8 = .pointer (some ⟨b1, off1 + k, none⟩) := hφ 8 (hd 8 (by decide))
            have d0 := (J.next hS.beh).cell k hlt
            simp only [wpAt, List.getElem?_toArray, List.getElem?_cons_succ, List.getElem?_cons_zero, slotOf, frOf, Act.put]
            go_wp2_with fail
            first | exact ⟨trivial, rfl, trivial, hS⟩ | exact ⟨rfl, trivial, hS⟩ | exact ⟨trivial, rfl, trivial⟩ | exact ⟨rfl, trivial⟩ | exact rfl
          · have k5 : vals 5 = .bool false := hφ 5 (hd 5 (by decide))
            simp only [wpAt, List.getElem?_toArray, List.getElem?_cons_succ, List.getElem?_cons_zero, slotOf, frOf, Act.put]
            go_wp2_with fail
            first | exact ⟨trivial, rfl, trivial, hS⟩ | exact ⟨rfl, trivial, hS⟩ | exact ⟨trivial, rfl, trivial⟩ | exact ⟨rfl, trivial⟩ | exact rfl
          · have k5 : vals 5 = .bool false := hφ 5 (hd 5 (by decide))
            have k10 : vals 10 = .pointer (some ⟨w.heap.size, 0, none⟩) := hφ 10 (hd 10 (by decide))
            have c0 := hS.cell m0 (i := 0) rfl
            dsimp only at c0
            simp only [wpAt, List.getElem?_toArray, List.getElem?_cons_succ, List.getElem?_cons_zero, slotOf, frOf, Act.put]
            go_wp2_with fail
            first | exact ⟨trivial, rfl, trivial, hS⟩ | exact ⟨rfl, trivial, hS⟩ | exact ⟨trivial, rfl, trivial⟩ | exact ⟨rfl, trivial⟩ | exact rfl
          · have k5 : vals 5 = .bool false := hφ 5 (hd 5 (by decide))
            have k11 : vals 11 = .slice a m cap := hφ 11 (hd 11 (by decide))
            simp only [wpAt, List.getElem?_toArray, List.getElem?_cons_succ, List.getElem?_cons_zero, slotOf, frOf, Act.put]
            go_wp2_with fail
            first | exact ⟨trivial, rfl, trivial, hS⟩ | exact ⟨rfl, trivial, hS⟩ | exact ⟨trivial, rfl, trivial⟩ | exact ⟨rfl, trivial⟩ | exact rfl
          · have k5 : vals 5 = .bool false := hφ 5 (hd 5 (by decide))
            have k9 : vals 9 = .int .i64 (z k) := hφ 9 (hd 9 (by decide))
            have k12 : vals 12 = .int .i64 m := hφ 12 (hd 12 (by decide))
            simp only [wpAt, List.getElem?_toArray, List.getElem?_cons_succ, List.getElem?_cons_zero, slotOf, frOf, Act.put]
            go_wp2_with fail
            first | exact ⟨trivial, rfl, trivial, hS⟩ | exact ⟨rfl, trivial, hS⟩ | exact ⟨trivial, rfl, trivial⟩ | exact ⟨rfl, trivial⟩ | exact rfl
          · have k5 : vals 5 = .bool false := hφ 5 (hd 5 (by decide))
            have k13 : vals 13 = .bool true := hφ 13 (hd 13 (by decide))
            refine wpAt_of rfl rfl ?_
            simp only [frOf, Act.put]
            go_wp2_with fail
            first | exact ⟨trivial, rfl, trivial, hS⟩ | exact ⟨rfl, trivial, hS⟩ | exact ⟨trivial, rfl, trivial⟩ | exact ⟨rfl, trivial⟩ | exact rfl
          · have k14 : vals 14 = .bool true := hφ 14 (hd 14 (by decide))
            refine wpAt_of rfl rfl ?_
            simp only [frOf, Act.put]
            go_wp2_with fail
            first | exact ⟨trivial, rfl, trivial, hS⟩ | exact ⟨rfl, trivial, hS⟩ | exact ⟨trivial, rfl, trivial⟩ | exact ⟨rfl, trivial⟩ | exact rfl
          · have k15 : vals 15 = .bool true := hφ 15 (hd 15 (by decide))
            simp only [wpAt, List.getElem?_toArray, List.getElem?_cons_succ, List.getElem?_cons_zero, slotOf, frOf, Act.put]
            go_wp2_with fail
            first | exact ⟨trivial, rfl, trivial, hS⟩ | exact ⟨rfl, trivial, hS⟩ | exact ⟨trivial, rfl, trivial⟩ | exact ⟨rfl, trivial⟩ | exact rfl
          · have k15 : vals 15 = .bool true := hφ 15 (hd 15 (by decide))
            have k16 : vals 16 = undef := hφ 16 (hd 16 (by decide))
            simp only [wpAt, List.getElem?_toArray, List.getElem?_cons_succ, List.getElem?_cons_zero, slotOf, frOf, Act.put]
            go_wp2_with fail
            first | exact ⟨trivial, rfl, trivial, hS⟩ | exact ⟨rfl, trivial, hS⟩ | exact ⟨trivial, rfl, trivial⟩ | exact ⟨rfl, trivial⟩ | exact rfl
          · have k15 : vals 15 = .bool true := hφ 15 (hd 15 (by decide))
            have k17 : vals 17 = undef := hφ 17 (hd 17 (by decide))
            simp only [wpAt, List.getElem?_toArray, List.getElem?_cons_succ, List.getElem?_cons_zero, slotOf, frOf, Act.put]
            go_wp2_with fail
            first | exact ⟨trivial, rfl, trivial, hS⟩ | exact ⟨rfl, trivial, hS⟩ | exact ⟨trivial, rfl, trivial⟩ | exact ⟨rfl, trivial⟩ | exact rfl
          · have k18 : vals 18 = undef := hφ 18 (hd 18 (by decide))
            simp only [wpAt, List.getElem?_toArray, List.getElem?_cons_succ, List.getElem?_cons_zero, slotOf, frOf, Act.put, List.setIfInBounds_toArray, List.set_cons_succ, List.set_cons_zero, k18]
            go_big_skip
            go_wp2_with fail
            first | exact ⟨trivial, rfl, trivial, hS⟩ | exact ⟨rfl, trivial, hS⟩ | exact ⟨trivial, rfl, trivial⟩ | exact ⟨rfl, trivial⟩ | exact rfl
          · have k18 : vals 18 = undef := hφ 18 (hd 18 (by decide))
            simp only [wpAt, List.getElem?_toArray, List.getElem?_cons_succ, List.getElem?_cons_zero, slotOf, frOf, Act.put, List.setIfInBounds_toArray, List.set_cons_succ, List.set_cons_zero, k18]
            go_big_skip
            go_wp2_with fail
            first | exact ⟨trivial, rfl, trivial, hS⟩ | exact ⟨rfl, trivial, hS⟩ | exact ⟨trivial, rfl, trivial⟩ | exact ⟨rfl, trivial⟩ | exact rfl
          · have k18 : vals 18 = undef := hφ 18 (hd 18 (by decide))
            have k20 : vals 20 = undef := hφ 20 (hd 20 (by decide))
            simp only [wpAt, List.getElem?_toArray, List.getElem?_cons_succ, List.getElem?_cons_zero, slotOf, frOf, Act.put, List.setIfInBounds_toArray, List.set_cons_succ, List.set_cons_zero, k18]
            go_big_skip
            go_wp2_with fail
            first | exact ⟨trivial, rfl, trivial, hS⟩ | exact ⟨rfl, trivial, hS⟩ | exact ⟨trivial, rfl, trivial⟩ | exact ⟨rfl, trivial⟩ | exact rfl
          · have k18 : vals 18 = undef := hφ 18 (hd 18 (by decide))
            have k19 : vals 19 = undef := hφ 19 (hd 19 (by decide))
            have k21 : vals 21 = undef := hφ 21 (hd 21 (by decide))
            simp only [wpAt, List.getElem?_toArray, List.getElem?_cons_succ, List.getElem?_cons_zero, slotOf, frOf, Act.put, List.setIfInBounds_toArray, List.set_cons_succ, List.set_cons_zero, k18]
            go_big_skip
            go_wp2_with fail
            first | exact ⟨trivial, rfl, trivial, hS⟩ | exact ⟨rfl, trivial, hS⟩ | exact ⟨trivial, rfl, trivial⟩ | exact ⟨rfl, trivial⟩ | exact rfl
          · have k18 : vals 18 = undef := hφ 18 (hd 18 (by decide))
            have k22 : vals 22 = undef := hφ 22 (hd 22 (by decide))
            simp only [wpAt, List.getElem?_toArray, List.getElem?_cons_succ, List.getElem?_cons_zero, slotOf, frOf, Act.put, List.setIfInBounds_toArray, List.set_cons_succ, List.set_cons_zero, k18]
            go_big_skip
            go_wp2_with fail
            first | exact ⟨trivial, rfl, trivial, hS⟩ | exact ⟨rfl, trivial, hS⟩ | exact ⟨trivial, rfl, trivial⟩ | exact ⟨rfl, trivial⟩ | exact rfl
          · have k18 : vals 18 = undef := hφ 18 (hd 18 (by decide))
            simp only [wpAt, List.getElem?_toArray, List.getElem?_cons_succ, List.getElem?_cons_zero, slotOf, frOf, Act.put, List.setIfInBounds_toArray, List.set_cons_succ, List.set_cons_zero, k18]
            go_big_skip
            go_wp2_with fail
            first | exact ⟨trivial, rfl, trivial, hS⟩ | exact ⟨rfl, trivial, hS⟩ | exact ⟨trivial, rfl, trivial⟩ | exact ⟨rfl, trivial⟩ | exact rfl
          · have k18 : vals 18 = undef := hφ 18 (hd 18 (by decide))
            simp only [wpAt, List.getElem?_toArray, List.getElem?_cons_succ, List.getElem?_cons_zero, slotOf, frOf, Act.put, List.setIfInBounds_toArray, List.set_cons_succ, List.set_cons_zero, k18]
            go_big_skip
            go_wp2_with fail
            first | exact ⟨trivial, rfl, trivial, hS⟩ | exact ⟨rfl, trivial, hS⟩ | exact ⟨trivial, rfl, trivial⟩ | exact ⟨rfl, trivial⟩ | exact rfl
          · have k18 : vals 18 = undef := hφ 18 (hd 18 (by decide))
            have k24 : vals 24 = undef := hφ 24 (hd 24 (by decide))
            have k25 : vals 25 = undef := hφ 25 (hd 25 (by decide))
            simp only [wpAt, List.getElem?_toArray, List.getElem?_cons_succ, List.getElem?_cons_zero, slotOf, frOf, Act.put, List.setIfInBounds_toArray, List.set_cons_succ, List.set_cons_zero, k18]
            go_big_skip
            go_wp2_with fail
            first | exact ⟨trivial, rfl, trivial, hS⟩ | exact ⟨rfl, trivial, hS⟩ | exact ⟨trivial, rfl, trivial⟩ | exact ⟨rfl, trivial⟩ | exact rfl
          · have k18 : vals 18 = undef := hφ 18 (hd 18 (by decide))
            have k26 : vals 26 = undef := hφ 26 (hd 26 (by decide))
            simp only [wpAt, List.getElem?_toArray, List.getElem?_cons_succ, List.getElem?_cons_zero, slotOf, frOf, Act.put, List.setIfInBounds_toArray, List.set_cons_succ, List.set_cons_zero, k18]
            go_big_skip
            go_wp2_with fail
            first | exact ⟨trivial, rfl, trivial, hS⟩ | exact ⟨rfl, trivial, hS⟩ | exact ⟨trivial, rfl, trivial⟩ | exact ⟨rfl, trivial⟩ | exact rfl
          · have k18 : vals 18 = undef := hφ 18 (hd 18 (by decide))
            have k23 : vals 23 = undef := hφ 23 (hd 23 (by decide))
            have k27 : vals 27 = undef := hφ 27 (hd 27 (by decide))
            simp only [wpAt, List.getElem?_toArray, List.getElem?_cons_succ, List.getElem?_cons_zero, slotOf, frOf, Act.put, List.setIfInBounds_toArray, List.set_cons_succ, List.set_cons_zero, k18]
            go_big_skip
            go_wp2_with fail
            first | exact ⟨trivial, rfl, trivial, hS⟩ | exact ⟨rfl, trivial, hS⟩ | exact ⟨trivial, rfl, trivial⟩ | exact ⟨rfl, trivial⟩ | exact rfl
          · have k15 : vals 15 = .bool true := hφ 15 (hd 15 (by decide))
            have k18 : vals 18 = undef := hφ 18 (hd 18 (by decide))
            have k28 : vals 28 = undef := hφ 28 (hd 28 (by decide))
            simp only [wpAt, List.getElem?_toArray, List.getElem?_cons_succ, List.getElem?_cons_zero, slotOf, frOf, Act.put]
            go_wp2_with fail
            first | exact ⟨trivial, rfl, trivial, hS⟩ | exact ⟨rfl, trivial, hS⟩ | exact ⟨trivial, rfl, trivial⟩ | exact ⟨rfl, trivial⟩ | exact rfl
          · have k15 : vals 15 = .bool true := hφ 15 (hd 15 (by decide))
            have k29 : vals 29 = undef := hφ 29 (hd 29 (by decide))
            refine wpAt_of rfl rfl ?_
            simp only [frOf, Act.put]
            go_wp2_with fail
            first | exact ⟨trivial, rfl, trivial, hS⟩ | exact ⟨rfl, trivial, hS⟩ | exact ⟨trivial, rfl, trivial⟩ | exact ⟨rfl, trivial⟩ | exact rfl
        · intro L vals W hall hφ hS
          have k0 : vals 0 = .slice (some ⟨b1, off1, none⟩) n cap1 := hφ 0 (by decide)
          have k1 : vals 1 = .int .i64 k := hφ 1 (by decide)
          have k2 : vals 2 = .pointer (some ⟨b1, off1 + k, none⟩) := hφ 2 (by decide)
          have k3 : vals 3 = .int .i64 (z k) := hφ 3 (by decide)
          have k4 : vals 4 = .bool false := hφ 4 (by decide)
          have k5 : vals 5 = .bool false := hφ 5 (by decide)
          have k6 : vals 6 = .slice (some ⟨b1, off1, none⟩) n cap1 := hφ 6 (by decide)
          have k7 : vals 7 = .int .i64 k := hφ 7 (by decide)
          have k8 : vals 8 = .pointer (some ⟨b1, off1 + k, none⟩) := hφ 8 (by decide)
          have k9 : vals 9 = .int .i64 (z k) := hφ 9 (by decide)
          have k10 : vals 10 = .pointer (some ⟨w.heap.size, 0, none⟩) := hφ 10 (by decide)
          have k11 : vals 11 = .slice a m cap := hφ 11 (by decide)
          have k12 : vals 12 = .int .i64 m := hφ 12 (by decide)
          have k13 : vals 13 = .bool true := hφ 13 (by decide)
          have k14 : vals 14 = .bool true := hφ 14 (by decide)
          have k15 : vals 15 = .bool true := hφ 15 (by decide)
          have k16 : vals 16 = undef := hφ 16 (by decide)
          have k17 : vals 17 = undef := hφ 17 (by decide)
          have k18 : vals 18 = undef := hφ 18 (by decide)
          have k19 : vals 19 = undef := hφ 19 (by decide)
          have k20 : vals 20 = undef := hφ 20 (by decide)
          have k21 : vals 21 = undef := hφ 21 (by decide)
          have k22 : vals 22 = undef := hφ 22 (by decide)
          have k23 : vals 23 = undef := hφ 23 (by decide)
          have k24 : vals 24 = undef := hφ 24 (by decide)
          have k25 : vals 25 = undef := hφ 25 (by decide)
          have k26 : vals 26 = undef := hφ 26 (by decide)
          have k27 : vals 27 = undef := hφ 27 (by decide)
          have k28 : vals 28 = undef := hφ 28 (by decide)
          have k29 : vals 29 = undef := hφ 29 (by decide)
          have k30 : vals 30 = .bool true := hφ 30 (by decide)
          simp only [frOf, Act.put, List.setIfInBounds_toArray, List.set_cons_succ, List.set_cons_zero, k0, k1, k2, k3, k4, k5, k6, k7, k8, k9, k10, k11, k12, k13, k14, k15, k16, k17, k18, k19, k20, k21, k22, k23, k24, k25, k26, k27, k28, k29, k30]
          clear k0 k1 k2 k3 k4 k5 k6 k7 k8 k9 k10 k11 k12 k13 k14 k15 k16 k17 k18 k19 k20 k21 k22 k23 k24 k25 k26 k27 k28 k29 k30 hall hφ hS0
          have H := hS.1
          clear hS
          go_wp2_with fail
          go_ret
          exact ⟨ret_bool (by rw [hR.out, partTo_false hlt (hAS.out)]), H.below⟩
      have hBd : decide ((m : Int) ≤ z k) = false := by simp; omega
      have hPl : Hid (placeB (z k) m = true) := (by simp [placeB]; omega : _ = _)
      clear hA hB
      by_cases hC : k = 0
      · have hAS : Hid (partAt m z k = true) := (by unfold partAt; rw [hPl.out]; simp [hC] : _ = _)
        have hC' : decide (0 < k) = false := by simp; omega
        clear hC
        go_wp2_with fail
        refine region_inv3 [(0, 20), (1, 21), (2, 22), (3, 23), (4, 24), (5, 25), (6, 26), (7, 27), (8, 28), (9, 29), (10, 30), (11, 31), (12, 32), (13, 33), (14, 34), (15, 35), (16, 36), (17, 37), (18, 38), (19, 39), (20, 40), (21, 41), (22, 42), (23, 43), (24, 44), (25, 45), (26, 46), (27, 47), (28, 48), (29, 49), (30, 50)]
          (fun j v _ => match j with
            | 0 => Is (.slice (some ⟨b1, off1, none⟩) n cap1) v
            | 1 => Is (.int .i64 k) v
            | 2 => Is (.pointer (some ⟨b1, off1 + k, none⟩)) v
            | 3 => Is (.int .i64 (z k)) v
            | 4 => Is (.bool false) v
            | 5 => Is (.bool false) v
            | 6 => Is (.slice (some ⟨b1, off1, none⟩) n cap1) v
            | 7 => Is (.int .i64 k) v
            | 8 => Is (.pointer (some ⟨b1, off1 + k, none⟩)) v
            | 9 => Is (.int .i64 (z k)) v
            | 10 => Is (.pointer (some ⟨w.heap.size, 0, none⟩)) v
            | 11 => Is (.slice a m cap) v
            | 12 => Is (.int .i64 m) v
            | 13 => Is (.bool false) v
            | 14 => Is (.bool false) v
            | 15 => Is (.bool false) v
            | 16 => Is (.int .i64 k) v
            | 17 => Is (.bool false) v
            | 18 => Is (.bool false) v
            | 19 => Is (undef) v
            | 20 => Is (undef) v
            | 21 => Is (undef) v
            | 22 => Is (undef) v
            | 23 => Is (undef) v
            | 24 => Is (undef) v
            | 25 => Is (undef) v
            | 26 => Is (undef) v
            | 27 => Is (undef) v
            | 28 => Is (undef) v
            | 29 => Is (.bool false) v
            | 30 => Is (.bool false) v
            | _ => True)
          (fun _ W => HX w wr Lb W) TT
          (by kernel_rfl) (by kernel_rfl) (by kernel_rfl) (by kernel_rfl) (by kernel_rfl) rfl hS0 (fun i j v W W' _ h _ => h) ?_ ?_
        · intro i L vals W hi' hφ hS hL hd
          have hi2 : i < 31 := hi'
          clear hi'
          rcases (show i = 0 ∨ i = 1 ∨ i = 2 ∨ i = 3 ∨ i = 4 ∨ i = 5 ∨ i = 6 ∨ i = 7 ∨ i = 8 ∨ i = 9 ∨ i = 10 ∨ i = 11 ∨ i = 12 ∨ i = 13 ∨ i = 14 ∨ i = 15 ∨ i = 16 ∨ i = 17 ∨ i = 18 ∨ i = 19 ∨ i = 20 ∨ i = 21 ∨ i = 22 ∨ i = 23 ∨ i = 24 ∨ i = 25 ∨ i = 26 ∨ i = 27 ∨ i = 28 ∨ i = 29 ∨ i = 30 by omega) with rfl | rfl | rfl | rfl | rfl | rfl | rfl | rfl | rfl | rfl | rfl | rfl | rfl | rfl | rfl | rfl | rfl | rfl | rfl | rfl | rfl | rfl | rfl | rfl | rfl | rfl | rfl | rfl | rfl | rfl | rfl
          · refine wpAt_of rfl rfl ?_
            simp only [frOf, Act.put]
            go_wp2_with fail
            first | exact ⟨trivial, rfl, trivial, hS⟩ | exact ⟨rfl, trivial, hS⟩ | exact ⟨trivial, rfl, trivial⟩ | exact ⟨rfl, trivial⟩ | exact rfl
          · refine wpAt_of rfl rfl ?_
            simp only [frOf, Act.put]
            go_wp2_with fail
            first | exact ⟨trivial, rfl, trivial, hS⟩ | exact ⟨rfl, trivial, hS⟩ | exact ⟨trivial, rfl, trivial⟩ | exact ⟨rfl, trivial⟩ | exact rfl
          · have k0 : vals 0 = .slice (some ⟨b1, off1, none⟩) n cap1 := hφ 0 (hd 0 (by decide))
            have k1 : vals 1 = .int .i64 k := hφ 1 (hd 1 (by decide))
            refine wpAt_of rfl rfl ?_
            simp only [frOf, Act.put]
            go_wp2_with fail
            first | exact ⟨trivial, rfl, trivial, hS⟩ | exact ⟨rfl, trivial, hS⟩ | exact ⟨trivial, rfl, trivial⟩ | exact ⟨rfl, trivial⟩ | exact rfl
          · have k2 : vals 2 = .pointer (some ⟨b1, off1 + k, none⟩) := hφ 2 (hd 2 (by decide))
            have d0 := (J.next hS.beh).cell k hlt
            refine wpAt_of rfl rfl ?_
            simp only [frOf, Act.put]
            go_wp2_with fail
            first | exact ⟨trivial, rfl, trivial, hS⟩ | exact ⟨rfl, trivial, hS⟩ | exact ⟨trivial, rfl, trivial⟩ | exact ⟨rfl, trivial⟩ | exact rfl
          · have k3 : vals 3 = .int .i64 (z k) := hφ 3 (hd 3 (by decide))
            refine wpAt_of rfl rfl ?_
            simp only [frOf, Act.put]
            go_wp2_with fail
            first | exact ⟨trivial, rfl, trivial, hS⟩ | exact ⟨rfl, trivial, hS⟩ | exact ⟨trivial, rfl, trivial⟩ | exact ⟨rfl, trivial⟩ | exact rfl
          · have k4 : vals 4 = .bool false := hφ 4 (hd 4 (by decide))
            refine wpAt_of rfl rfl ?_
            simp only [frOf, Act.put]
            go_wp2_with fail
            first | exact ⟨trivial, rfl, trivial, hS⟩ | exact ⟨rfl, trivial, hS⟩ | exact ⟨trivial, rfl, trivial⟩ | exact ⟨rfl, trivial⟩ | exact rfl
          · have k5 : vals 5 = .bool false := hφ 5 (hd 5 (by decide))
            simp only [wpAt, List.getElem?_toArray, List.getElem?_cons_succ, List.getElem?_cons_zero, slotOf, frOf, Act.put]
            go_wp2_with fail
            first | exact ⟨trivial, rfl, trivial, hS⟩ | exact ⟨rfl, trivial, hS⟩ | exact ⟨trivial, rfl, trivial⟩ | exact ⟨rfl, trivial⟩ | exact rfl
          · have k5 : vals 5 = .bool false := hφ 5 (hd 5 (by decide))
            simp only [wpAt, List.getElem?_toArray, List.getElem?_cons_succ, List.getElem?_cons_zero, slotOf, frOf, Act.put]
            go_wp2_with fail
            first | exact ⟨trivial, rfl, trivial, hS⟩ | exact ⟨rfl, trivial, hS⟩ | exact ⟨trivial, rfl, trivial⟩ | exact ⟨rfl, trivial⟩ | exact rfl
          · have k5 : vals 5 = .bool false := hφ 5 (hd 5 (by decide))
            have k6 : vals 6 = .slice (some ⟨b1, off1, none⟩) n cap1 := hφ 6 (hd 6 (by decide))
            have k7 : vals 7 = .int .i64 k := hφ 7 (hd 7 (by decide))
            simp only [wpAt, List.getElem?_toArray, List.getElem?_cons_succ, List.getElem?_cons_zero, slotOf, frOf, Act.put]
            go_wp2_with fail
            first | exact ⟨trivial, rfl, trivial, hS⟩ | exact ⟨rfl, trivial, hS⟩ | exact ⟨trivial, rfl, trivial⟩ | exact ⟨rfl, trivial⟩ | exact rfl
          · have k5 : vals 5 = .bool false := hφ 5 (hd 5 (by decide))
            have k8 : vals 8 = .pointer (some ⟨b1, off1 + k, none⟩) := hφ 8 (hd 8 (by decide))
            have d0 := (J.next hS.beh).cell k hlt
            simp only [wpAt, List.getElem?_toArray, List.getElem?_cons_succ, List.getElem?_cons_zero, slotOf, frOf, Act.put]
            go_wp2_with fail
            first | exact ⟨trivial, rfl, trivial, hS⟩ | exact ⟨rfl, trivial, hS⟩ | exact ⟨trivial, rfl, trivial⟩ | exact ⟨rfl, trivial⟩ | exact rfl
          · have k5 : vals 5 = .bool false := hφ 5 (hd 5 (by decide))
            simp only [wpAt, List.getElem?_toArray, List.getElem?_cons_succ, List.getElem?_cons_zero, slotOf, frOf, Act.put]
            go_wp2_with fail
            first | exact ⟨trivial, rfl, trivial, hS⟩ | exact ⟨rfl, trivial, hS⟩ | exact ⟨trivial, rfl, trivial⟩ | exact ⟨rfl, trivial⟩ | exact rfl
          · have k5 : vals 5 = .bool false := hφ 5 (hd 5 (by decide))
            have k10 : vals 10 = .pointer (some ⟨w.heap.size, 0, none⟩) := hφ 10 (hd 10 (by decide))
            have c0 := hS.cell m0 (i := 0) rfl
            dsimp only at c0
            simp only [wpAt, List.getElem?_toArray, List.getElem?_cons_succ, List.getElem?_cons_zero, slotOf, frOf, Act.put]
            go_wp2_with fail
            first | exact ⟨trivial, rfl, trivial, hS⟩ | exact ⟨rfl, trivial, hS⟩ | exact ⟨trivial, rfl, trivial⟩ | exact ⟨rfl, trivial⟩ | exact rfl
          · have k5 : vals 5 = .bool false := hφ 5 (hd 5 (by decide))
            have k11 : vals 11 = .slice a m cap := hφ 11 (hd 11 (by decide))
            simp only [wpAt, List.getElem?_toArray, List.getElem?_cons_succ, List.getElem?_cons_zero, slotOf, frOf, Act.put]
            go_wp2_with fail
            first | exact ⟨trivial, rfl, trivial, hS⟩ | exact ⟨rfl, trivial, hS⟩ | exact ⟨trivial, rfl, trivial⟩ | exact ⟨rfl, trivial⟩ | exact rfl
          · have k5 : vals 5 = .bool false := hφ 5 (hd 5 (by decide))
            have k9 : vals 9 = .int .i64 (z k) := hφ 9 (hd 9 (by decide))
            have k12 : vals 12 = .int .i64 m := hφ 12 (hd 12 (by decide))
            simp only [wpAt, List.getElem?_toArray, List.getElem?_cons_succ, List.getElem?_cons_zero, slotOf, frOf, Act.put]
            go_wp2_with fail
            first | exact ⟨trivial, rfl, trivial, hS⟩ | exact ⟨rfl, trivial, hS⟩ | exact ⟨trivial, rfl, trivial⟩ | exact ⟨rfl, trivial⟩ | exact rfl
          · have k5 : vals 5 = .bool false := hφ 5 (hd 5 (by decide))
            have k13 : vals 13 = .bool false := hφ 13 (hd 13 (by decide))
            refine wpAt_of rfl rfl ?_
            simp only [frOf, Act.put]
            go_wp2_with fail
            first | exact ⟨trivial, rfl, trivial, hS⟩ | exact ⟨rfl, trivial, hS⟩ | exact ⟨trivial, rfl, trivial⟩ | exact ⟨rfl, trivial⟩ | exact rfl
          · have k14 : vals 14 = .bool false := hφ 14 (hd 14 (by decide))
            refine wpAt_of rfl rfl ?_
            simp only [frOf, Act.put]
            go_wp2_with fail
            first | exact ⟨trivial, rfl, trivial, hS⟩ | exact ⟨rfl, trivial, hS⟩ | exact ⟨trivial, rfl, trivial⟩ | exact ⟨rfl, trivial⟩ | exact rfl
          · have k15 : vals 15 = .bool false := hφ 15 (hd 15 (by decide))
            simp only [wpAt, List.getElem?_toArray, List.getElem?_cons_succ, List.getElem?_cons_zero, slotOf, frOf, Act.put]
            go_wp2_with fail
            first | exact ⟨trivial, rfl, trivial, hS⟩ | exact ⟨rfl, trivial, hS⟩ | exact ⟨trivial, rfl, trivial⟩ | exact ⟨rfl, trivial⟩ | exact rfl
          · have k15 : vals 15 = .bool false := hφ 15 (hd 15 (by decide))
            have k16 : vals 16 = .int .i64 k := hφ 16 (hd 16 (by decide))
            simp only [wpAt, List.getElem?_toArray, List.getElem?_cons_succ, List.getElem?_cons_zero, slotOf, frOf, Act.put]
            go_wp2_with fail
            first | exact ⟨trivial, rfl, trivial, hS⟩ | exact ⟨rfl, trivial, hS⟩ | exact ⟨trivial, rfl, trivial⟩ | exact ⟨rfl, trivial⟩ | exact rfl
          · have k15 : vals 15 = .bool false := hφ 15 (hd 15 (by decide))
            have k17 : vals 17 = .bool false := hφ 17 (hd 17 (by decide))
            simp only [wpAt, List.getElem?_toArray, List.getElem?_cons_succ, List.getElem?_cons_zero, slotOf, frOf, Act.put]
            go_wp2_with fail
            first | exact ⟨trivial, rfl, trivial, hS⟩ | exact ⟨rfl, trivial, hS⟩ | exact ⟨trivial, rfl, trivial⟩ | exact ⟨rfl, trivial⟩ | exact rfl
          · have k18 : vals 18 = .bool false := hφ 18 (hd 18 (by decide))
            simp only [wpAt, List.getElem?_toArray, List.getElem?_cons_succ, List.getElem?_cons_zero, slotOf, frOf, Act.put]
            go_wp2_with fail
            first | exact ⟨trivial, rfl, trivial, hS⟩ | exact ⟨rfl, trivial, hS⟩ | exact ⟨trivial, rfl, trivial⟩ | exact ⟨rfl, trivial⟩ | exact rfl
          · have k18 : vals 18 = .bool false := hφ 18 (hd 18 (by decide))
            simp only [wpAt, List.getElem?_toArray, List.getElem?_cons_succ, List.getElem?_cons_zero, slotOf, frOf, Act.put]
            go_wp2_with fail
            first | exact ⟨trivial, rfl, trivial, hS⟩ | exact ⟨rfl, trivial, hS⟩ | exact ⟨trivial, rfl, trivial⟩ | exact ⟨rfl, trivial⟩ | exact rfl
          · have k18 : vals 18 = .bool false := hφ 18 (hd 18 (by decide))
            have k20 : vals 20 = undef := hφ 20 (hd 20 (by decide))
            simp only [wpAt, List.getElem?_toArray, List.getElem?_cons_succ, List.getElem?_cons_zero, slotOf, frOf, Act.put]
            go_wp2_with fail
            first | exact ⟨trivial, rfl, trivial, hS⟩ | exact ⟨rfl, trivial, hS⟩ | exact ⟨trivial, rfl, trivial⟩ | exact ⟨rfl, trivial⟩ | exact rfl
          · have k18 : vals 18 = .bool false := hφ 18 (hd 18 (by decide))
            have k19 : vals 19 = undef := hφ 19 (hd 19 (by decide))
            have k21 : vals 21 = undef := hφ 21 (hd 21 (by decide))
            simp only [wpAt, List.getElem?_toArray, List.getElem?_cons_succ, List.getElem?_cons_zero, slotOf, frOf, Act.put]
            go_wp2_with fail
            first | exact ⟨trivial, rfl, trivial, hS⟩ | exact ⟨rfl, trivial, hS⟩ | exact ⟨trivial, rfl, trivial⟩ | exact ⟨rfl, trivial⟩ | exact rfl
          · have k18 : vals 18 = .bool false := hφ 18 (hd 18 (by decide))
            have k22 : vals 22 = undef := hφ 22 (hd 22 (by decide))
            simp only [wpAt, List.getElem?_toArray, List.getElem?_cons_succ, List.getElem?_cons_zero, slotOf, frOf, Act.put]
            go_wp2_with fail
            first | exact ⟨trivial, rfl, trivial, hS⟩ | exact ⟨rfl, trivial, hS⟩ | exact ⟨trivial, rfl, trivial⟩ | exact ⟨rfl, trivial⟩ | exact rfl
          · have k18 : vals 18 = .bool false := hφ 18 (hd 18 (by decide))
            simp only [wpAt, List.getElem?_toArray, List.getElem?_cons_succ, List.getElem?_cons_zero, slotOf, frOf, Act.put]
            go_wp2_with fail
            first | exact ⟨trivial, rfl, trivial, hS⟩ | exact ⟨rfl, trivial, hS⟩ | exact ⟨trivial, rfl, trivial⟩ | exact ⟨rfl, trivial⟩ | exact rfl
          · have k18 : vals 18 = .bool false := hφ 18 (hd 18 (by decide))
            simp only [wpAt, List.getElem?_toArray, List.getElem?_cons_succ, List.getElem?_cons_zero, slotOf, frOf, Act.put]
            go_wp2_with fail
            first | exact ⟨trivial, rfl, trivial, hS⟩ | exact ⟨rfl, trivial, hS⟩ | exact ⟨trivial, rfl, trivial⟩ | exact ⟨rfl, trivial⟩ | exact rfl
          · have k18 : vals 18 = .bool false := hφ 18 (hd 18 (by decide))
            have k24 : vals 24 = undef := hφ 24 (hd 24 (by decide))
            have k25 : vals 25 = undef := hφ 25 (hd 25 (by decide))
            simp only [wpAt, List.getElem?_toArray, List.getElem?_cons_succ, List.getElem?_cons_zero, slotOf, frOf, Act.put]
            go_wp2_with fail
            first | exact ⟨trivial, rfl, trivial, hS⟩ | exact ⟨rfl, trivial, hS⟩ | exact ⟨trivial, rfl, trivial⟩ | exact ⟨rfl, trivial⟩ | exact rfl
          · have k18 : vals 18 = .bool false := hφ 18 (hd 18 (by decide))
            have k26 : vals 26 = undef := hφ 26 (hd 26 (by decide))
            simp only [wpAt, List.getElem?_toArray, List.getElem?_cons_succ, List.getElem?_cons_zero, slotOf, frOf, Act.put]
            go_wp2_with fail
            first | exact ⟨trivial, rfl, trivial, hS⟩ | exact ⟨rfl, trivial, hS⟩ | exact ⟨trivial, rfl, trivial⟩ | exact ⟨rfl, trivial⟩ | exact rfl
          · have k18 : vals 18 = .bool false := hφ 18 (hd 18 (by decide))
            have k23 : vals 23 = undef := hφ 23 (hd 23 (by decide))
            have k27 : vals 27 = undef := hφ 27 (hd 27 (by decide))
            simp only [wpAt, List.getElem?_toArray, List.getElem?_cons_succ, List.getElem?_cons_zero, slotOf, frOf, Act.put]
            go_wp2_with fail
            first | exact ⟨trivial, rfl, trivial, hS⟩ | exact ⟨rfl, trivial, hS⟩ | exact ⟨trivial, rfl, trivial⟩ | exact ⟨rfl, trivial⟩ | exact rfl
          · have k15 : vals 15 = .bool false := hφ 15 (hd 15 (by decide))
            have k18 : vals 18 = .bool false := hφ 18 (hd 18 (by decide))
            have k28 : vals 28 = undef := hφ 28 (hd 28 (by decide))
            simp only [wpAt, List.getElem?_toArray, List.getElem?_cons_succ, List.getElem?_cons_zero, slotOf, frOf, Act.put]
            go_wp2_with fail
            first | exact ⟨trivial, rfl, trivial, hS⟩ | exact ⟨rfl, trivial, hS⟩ | exact ⟨trivial, rfl, trivial⟩ | exact ⟨rfl, trivial⟩ | exact rfl
          · have k15 : vals 15 = .bool false := hφ 15 (hd 15 (by decide))
            have k29 : vals 29 = .bool false := hφ 29 (hd 29 (by decide))
            refine wpAt_of rfl rfl ?_
            simp only [frOf, Act.put]
            go_wp2_with fail
            first | exact ⟨trivial, rfl, trivial, hS⟩ | exact ⟨rfl, trivial, hS⟩ | exact ⟨trivial, rfl, trivial⟩ | exact ⟨rfl, trivial⟩ | exact rfl
        · intro L vals W hall hφ hS
          have k0 : vals 0 = .slice (some ⟨b1, off1, none⟩) n cap1 := hφ 0 (by decide)
          have k1 : vals 1 = .int .i64 k := hφ 1 (by decide)
          have k2 : vals 2 = .pointer (some ⟨b1, off1 + k, none⟩) := hφ 2 (by decide)
          have k3 : vals 3 = .int .i64 (z k) := hφ 3 (by decide)
          have k4 : vals 4 = .bool false := hφ 4 (by decide)
          have k5 : vals 5 = .bool false := hφ 5 (by decide)
          have k6 : vals 6 = .slice (some ⟨b1, off1, none⟩) n cap1 := hφ 6 (by decide)
          have k7 : vals 7 = .int .i64 k := hφ 7 (by decide)
          have k8 : vals 8 = .pointer (some ⟨b1, off1 + k, none⟩) := hφ 8 (by decide)
          have k9 : vals 9 = .int .i64 (z k) := hφ 9 (by decide)
          have k10 : vals 10 = .pointer (some ⟨w.heap.size, 0, none⟩) := hφ 10 (by decide)
          have k11 : vals 11 = .slice a m cap := hφ 11 (by decide)
          have k12 : vals 12 = .int .i64 m := hφ 12 (by decide)
          have k13 : vals 13 = .bool false := hφ 13 (by decide)
          have k14 : vals 14 = .bool false := hφ 14 (by decide)
          have k15 : vals 15 = .bool false := hφ 15 (by decide)
          have k16 : vals 16 = .int .i64 k := hφ 16 (by decide)
          have k17 : vals 17 = .bool false := hφ 17 (by decide)
          have k18 : vals 18 = .bool false := hφ 18 (by decide)
          have k19 : vals 19 = undef := hφ 19 (by decide)
          have k20 : vals 20 = undef := hφ 20 (by decide)
          have k21 : vals 21 = undef := hφ 21 (by decide)
          have k22 : vals 22 = undef := hφ 22 (by decide)
          have k23 : vals 23 = undef := hφ 23 (by decide)
          have k24 : vals 24 = undef := hφ 24 (by decide)
          have k25 : vals 25 = undef := hφ 25 (by decide)
          have k26 : vals 26 = undef := hφ 26 (by decide)
          have k27 : vals 27 = undef := hφ 27 (by decide)
          have k28 : vals 28 = undef := hφ 28 (by decide)
          have k29 : vals 29 = .bool false := hφ 29 (by decide)
          have k30 : vals 30 = .bool false := hφ 30 (by decide)
          simp only [frOf, Act.put, List.setIfInBounds_toArray, List.set_cons_succ, List.set_cons_zero, k0, k1, k2, k3, k4, k5, k6, k7, k8, k9, k10, k11, k12, k13, k14, k15, k16, k17, k18, k19, k20, k21, k22, k23, k24, k25, k26, k27, k28, k29, k30]
          clear k0 k1 k2 k3 k4 k5 k6 k7 k8 k9 k10 k11 k12 k13 k14 k15 k16 k17 k18 k19 k20 k21 k22 k23 k24 k25 k26 k27 k28 k29 k30 hall hφ hS0
          have H := hS.1
          replace J := J.next hS.2
          clear hS
          go_wp2_with fail
          go_roundw
          case rel => exact ⟨k + 1, by omega, by go_num, (by simp only [partTo, hO.out, hAS.out, Bool.and_self] : _ = _), H, J⟩
          case measure => simp [intOf]; omega
      have hC' : 0 < k := by omega
      obtain ⟨kp, hj⟩ : ∃ kp, k = kp + 1 := ⟨k - 1, by omega⟩
      have hjn : kp < n := by omega
      have hw : IntKind.i64.wrap ((k : Int) - 1) = (kp : Int) := by simp [IntKind.wrap, IntKind.signed, IntKind.bits]; omega
      have j1 : ((kp : Int)).toNat = kp := by omega
      have j2 : (0 : Int) ≤ (kp : Int) := by omega
      have j3 : (kp : Int) < (n : Int) := by omega
      have hAS : Hid (partAt m z k = decide (z kp < z k)) := (by unfold partAt; rw [hPl.out, hj]; simp : _ = _)
      clear hj hC
      by_cases hD : z k ≤ z kp
      · go_wp2_with fail
        refine region_inv3 [(0, 20), (1, 21), (2, 22), (3, 23), (4, 24), (5, 25), (6, 26), (7, 27), (8, 28), (9, 29), (10, 30), (11, 31), (12, 32), (13, 33), (14, 34), (15, 35), (16, 36), (17, 37), (18, 38), (19, 39), (20, 40), (21, 41), (22, 42), (23, 43), (24, 44), (25, 45), (26, 46), (27, 47), (28, 48), (29, 49), (30, 50)]
          (fun j v _ => match j with
            | 0 => Is (.slice (some ⟨b1, off1, none⟩) n cap1) v
            | 1 => Is (.int .i64 k) v
            | 2 => Is (.pointer (some ⟨b1, off1 + k, none⟩)) v
            | 3 => Is (.int .i64 (z k)) v
            | 4 => Is (.bool false) v
            | 5 => Is (.bool false) v
            | 6 => Is (.slice (some ⟨b1, off1, none⟩) n cap1) v
            | 7 => Is (.int .i64 k) v
            | 8 => Is (.pointer (some ⟨b1, off1 + k, none⟩)) v
            | 9 => Is (.int .i64 (z k)) v
            | 10 => Is (.pointer (some ⟨w.heap.size, 0, none⟩)) v
            | 11 => Is (.slice a m cap) v
            | 12 => Is (.int .i64 m) v
            | 13 => Is (.bool false) v
            | 14 => Is (.bool false) v
            | 15 => Is (.bool false) v
            | 16 => Is (.int .i64 k) v
            | 17 => Is (.bool true) v
            | 18 => Is (.bool true) v
            | 19 => Is (.slice (some ⟨b1, off1, none⟩) n cap1) v
            | 20 => Is (.int .i64 k) v
            | 21 => Is (.int .i64 kp) v
            | 22 => Is (.pointer (some ⟨b1, off1 + kp, none⟩)) v
            | 23 => Is (.int .i64 (z kp)) v
            | 24 => Is (.slice (some ⟨b1, off1, none⟩) n cap1) v
            | 25 => Is (.int .i64 k) v
            | 26 => Is (.pointer (some ⟨b1, off1 + k, none⟩)) v
            | 27 => Is (.int .i64 (z k)) v
            | 28 => Is (.bool true) v
            | 29 => Is (.bool true) v
            | 30 => Is (.bool true) v
            | _ => True)
          (fun _ W => HX w wr Lb W) TT
          (by kernel_rfl) (by kernel_rfl) (by kernel_rfl) (by kernel_rfl) (by kernel_rfl) rfl hS0 (fun i j v W W' _ h _ => h) ?_ ?_
        · intro i L vals W hi' hφ hS hL hd
          have hi2 : i < 31 := hi'
          clear hi'
          rcases (show i = 0 ∨ i = 1 ∨ i = 2 ∨ i = 3 ∨ i = 4 ∨ i = 5 ∨ i = 6 ∨ i = 7 ∨ i = 8 ∨ i = 9 ∨ i = 10 ∨ i = 11 ∨ i = 12 ∨ i = 13 ∨ i = 14 ∨ i = 15 ∨ i = 16 ∨ i = 17 ∨ i = 18 ∨ i = 19 ∨ i = 20 ∨ i = 21 ∨ i = 22 ∨ i = 23 ∨ i = 24 ∨ i = 25 ∨ i = 26 ∨ i = 27 ∨ i = 28 ∨ i = 29 ∨ i = 30 by omega) with rfl | rfl | rfl | rfl | rfl | rfl | rfl | rfl | rfl | rfl | rfl | rfl | rfl | rfl | rfl | rfl | rfl | rfl | rfl | rfl | rfl | rfl | rfl | rfl | rfl | rfl | rfl | rfl | rfl | rfl | rfl
          · refine wpAt_of rfl rfl ?_
            simp only [frOf, Act.put]
            go_wp2_with fail
            first | exact ⟨trivial, rfl, trivial, hS⟩ | exact ⟨rfl, trivial, hS⟩ | exact ⟨trivial, rfl, trivial⟩ | exact ⟨rfl, trivial⟩ | exact rfl
          · refine wpAt_of rfl rfl ?_
            simp only [frOf, Act.put]
            go_wp2_with fail
            first | exact ⟨trivial, rfl, trivial, hS⟩ | exact ⟨rfl, trivial, hS⟩ | exact ⟨trivial, rfl, trivial⟩ | exact ⟨rfl, trivial⟩ | exact rfl
          · have k0 : vals 0 = .slice (some ⟨b1, off1, none⟩) n cap1 := hφ 0 (hd 0 (by decide))
            have k1 : vals 1 = .int .i64 k := hφ 1 (hd 1 (by decide))
            refine wpAt_of rfl rfl ?_
            simp only [frOf, Act.put]
            go_wp2_with fail
            first | exact ⟨trivial, rfl, trivial, hS⟩ | exact ⟨rfl, trivial, hS⟩ | exact ⟨trivial, rfl, trivial⟩ | exact ⟨rfl, trivial⟩ | exact rfl
          · have k2 : vals 2 = .pointer (some ⟨b1, off1 + k, none⟩) := hφ 2 (hd 2 (by decide))
            have d0 := (J.next hS.beh).cell k hlt
            refine wpAt_of rfl rfl ?_
            simp only [frOf, Act.put]
            go_wp2_with fail
            first | exact ⟨trivial, rfl, trivial, hS⟩ | exact ⟨rfl, trivial, hS⟩ | exact ⟨trivial, rfl, trivial⟩ | exact ⟨rfl, trivial⟩ | exact rfl
          · have k3 : vals 3 = .int .i64 (z k) := hφ 3 (hd 3 (by decide))
            refine wpAt_of rfl rfl ?_
            simp only [frOf, Act.put]
            go_wp2_with fail
            first | exact ⟨trivial, rfl, trivial, hS⟩ | exact ⟨rfl, trivial, hS⟩ | exact ⟨trivial, rfl, trivial⟩ | exact ⟨rfl, trivial⟩ | exact rfl
          · have k4 : vals 4 = .bool false := hφ 4 (hd 4 (by decide))
            refine wpAt_of rfl rfl ?_
            simp only [frOf, Act.put]
            go_wp2_with fail
            first | exact ⟨trivial, rfl, trivial, hS⟩ | exact ⟨rfl, trivial, hS⟩ | exact ⟨trivial, rfl, trivial⟩ | exact ⟨rfl, trivial⟩ | exact rfl
          · have k5 : vals 5 = .bool false := hφ 5 (hd 5 (by decide))
            simp only [wpAt, List.getElem?_toArray, List.getElem?_cons_succ, List.getElem?_cons_zero, slotOf, frOf, Act.put]
            go_wp2_with fail
            first | exact ⟨trivial, rfl, trivial, hS⟩ | exact ⟨rfl, trivial, hS⟩ | exact ⟨trivial, rfl, trivial⟩ | exact ⟨rfl, trivial⟩ | exact rfl
          · have k5 : vals 5 = .bool false := hφ 5 (hd 5 (by decide))
            simp only [wpAt, List.getElem?_toArray, List.getElem?_cons_succ, List.getElem?_cons_zero, slotOf, frOf, Act.put]
            go_wp2_with fail
            first | exact ⟨trivial, rfl, trivial, hS⟩ | exact ⟨rfl, trivial, hS⟩ | exact ⟨trivial, rfl, trivial⟩ | exact ⟨rfl, trivial⟩ | exact rfl
          · have k5 : vals 5 = .bool false := hφ 5 (hd 5 (by decide))
            have k6 : vals 6 = .slice (some ⟨b1, off1, none⟩) n cap1 := hφ 6 (hd 6 (by decide))
            have k7 : vals 7 = .int .i64 k := hφ 7 (hd 7 (by decide))
            simp only [wpAt, List.getElem?_toArray, List.getElem?_cons_succ, List.getElem?_cons_zero, slotOf, frOf, Act.put]
            go_wp2_with fail
            first | exact ⟨trivial, rfl, trivial, hS⟩ | exact ⟨rfl, trivial, hS⟩ | exact ⟨trivial, rfl, trivial⟩ | exact ⟨rfl, trivial⟩ | exact rfl
          · have k5 : vals 5 = .bool false := hφ 5 (hd 5 (by decide))
            have k8 : vals 8 = .pointer (some ⟨b1, off1 + k, none⟩) := hφ 8 (hd 8 (by decide))
            have d0 := (J.next hS.beh).cell k hlt
            simp only [wpAt, List.getElem?_toArray, List.getElem?_cons_succ, List.getElem?_cons_zero, slotOf, frOf, Act.put]
            go_wp2_with fail
            first | exact ⟨trivial, rfl, trivial, hS⟩ | exact ⟨rfl, trivial, hS⟩ | exact ⟨trivial, rfl, trivial⟩ | exact ⟨rfl, trivial⟩ | exact rfl
          · have k5 : vals 5 = .bool false := hφ 5 (hd 5 (by decide))
            simp only [wpAt, List.getElem?_toArray, List.getElem?_cons_succ, List.getElem?_cons_zero, slotOf, frOf, Act.put]
            go_wp2_with fail
            first | exact ⟨trivial, rfl, trivial, hS⟩ | exact ⟨rfl, trivial, hS⟩ | exact ⟨trivial, rfl, trivial⟩ | exact ⟨rfl, trivial⟩ | exact rfl
          · have k5 : vals 5 = .bool false := hφ 5 (hd 5 (by decide))
            have k10 : vals 10 = .pointer (some ⟨w.heap.size, 0, none⟩) := hφ 10 (hd 10 (by decide))
            have c0 := hS.cell m0 (i := 0) rfl
            dsimp only at c0
            simp only [wpAt, List.getElem?_toArray, List.getElem?_cons_succ, List.getElem?_cons_zero, slotOf, frOf, Act.put]
            go_wp2_with fail
            first | exact ⟨trivial, rfl, trivial, hS⟩ | exact ⟨rfl, trivial, hS⟩ | exact ⟨trivial, rfl, trivial⟩ | exact ⟨rfl, trivial⟩ | exact rfl
          · have k5 : vals 5 = .bool false := hφ 5 (hd 5 (by decide))
            have k11 : vals 11 = .slice a m cap := hφ 11 (hd 11 (by decide))
            simp only [wpAt, List.getElem?_toArray, List.getElem?_cons_succ, List.getElem?_cons_zero, slotOf, frOf, Act.put]
            go_wp2_with fail
            first | exact ⟨trivial, rfl, trivial, hS⟩ | exact ⟨rfl, trivial, hS⟩ | exact ⟨trivial, rfl, trivial⟩ | exact ⟨rfl, trivial⟩ | exact rfl
          · have k5 : vals 5 = .bool false := hφ 5 (hd 5 (by decide))
            have k9 : vals 9 = .int .i64 (z k) := hφ 9 (hd 9 (by decide))
            have k12 : vals 12 = .int .i64 m := hφ 12 (hd 12 (by decide))
            simp only [wpAt, List.getElem?_toArray, List.getElem?_cons_succ, List.getElem?_cons_zero, slotOf, frOf, Act.put]
            go_wp2_with fail
            first | exact ⟨trivial, rfl, trivial, hS⟩ | exact ⟨rfl, trivial, hS⟩ | exact ⟨trivial, rfl, trivial⟩ | exact ⟨rfl, trivial⟩ | exact rfl
          · have k5 : vals 5 = .bool false := hφ 5 (hd 5 (by decide))
            have k13 : vals 13 = .bool false := hφ 13 (hd 13 (by decide))
            refine wpAt_of rfl rfl ?_
            simp only [frOf, Act.put]
            go_wp2_with fail
            first | exact ⟨trivial, rfl, trivial, hS⟩ | exact ⟨rfl, trivial, hS⟩ | exact ⟨trivial, rfl, trivial⟩ | exact ⟨rfl, trivial⟩ | exact rfl
          · have k14 : vals 14 = .bool false := hφ 14 (hd 14 (by decide))
            refine wpAt_of rfl rfl ?_
            simp only [frOf, Act.put]
            go_wp2_with fail
            first | exact ⟨trivial, rfl, trivial, hS⟩ | exact ⟨rfl, trivial, hS⟩ | exact ⟨trivial, rfl, trivial⟩ | exact ⟨rfl, trivial⟩ | exact rfl
          · have k15 : vals 15 = .bool false := hφ 15 (hd 15 (by decide))
            simp only [wpAt, List.getElem?_toArray, List.getElem?_cons_succ, List.getElem?_cons_zero, slotOf, frOf, Act.put]
            go_wp2_with fail
            first | exact ⟨trivial, rfl, trivial, hS⟩ | exact ⟨rfl, trivial, hS⟩ | exact ⟨trivial, rfl, trivial⟩ | exact ⟨rfl, trivial⟩ | exact rfl
          · have k15 : vals 15 = .bool false := hφ 15 (hd 15 (by decide))
            have k16 : vals 16 = .int .i64 k := hφ 16 (hd 16 (by decide))
            simp only [wpAt, List.getElem?_toArray, List.getElem?_cons_succ, List.getElem?_cons_zero, slotOf, frOf, Act.put]
            go_wp2_with fail
            first | exact ⟨trivial, rfl, trivial, hS⟩ | exact ⟨rfl, trivial, hS⟩ | exact ⟨trivial, rfl, trivial⟩ | exact ⟨rfl, trivial⟩ | exact rfl
          · have k15 : vals 15 = .bool false := hφ 15 (hd 15 (by decide))
            have k17 : vals 17 = .bool true := hφ 17 (hd 17 (by decide))
            simp only [wpAt, List.getElem?_toArray, List.getElem?_cons_succ, List.getElem?_cons_zero, slotOf, frOf, Act.put]
            go_wp2_with fail
            first | exact ⟨trivial, rfl, trivial, hS⟩ | exact ⟨rfl, trivial, hS⟩ | exact ⟨trivial, rfl, trivial⟩ | exact ⟨rfl, trivial⟩ | exact rfl
          · have k18 : vals 18 = .bool true := hφ 18 (hd 18 (by decide))
            simp only [wpAt, List.getElem?_toArray, List.getElem?_cons_succ, List.getElem?_cons_zero, slotOf, frOf, Act.put]
            go_wp2_with fail
            first | exact ⟨trivial, rfl, trivial, hS⟩ | exact ⟨rfl, trivial, hS⟩ | exact ⟨trivial, rfl, trivial⟩ | exact ⟨rfl, trivial⟩ | exact rfl
          · have k18 : vals 18 = .bool true := hφ 18 (hd 18 (by decide))
            simp only [wpAt, List.getElem?_toArray, List.getElem?_cons_succ, List.getElem?_cons_zero, slotOf, frOf, Act.put]
            go_wp2_with fail
            first | exact ⟨trivial, rfl, trivial, hS⟩ | exact ⟨rfl, trivial, hS⟩ | exact ⟨trivial, rfl, trivial⟩ | exact ⟨rfl, trivial⟩ | exact rfl
          · have k18 : vals 18 = .bool true := hφ 18 (hd 18 (by decide))
            have k20 : vals 20 = .int .i64 k := hφ 20 (hd 20 (by decide))
            simp only [wpAt, List.getElem?_toArray, List.getElem?_cons_succ, List.getElem?_cons_zero, slotOf, frOf, Act.put]
            go_wp2_with fail
            first | exact ⟨trivial, rfl, trivial, hS⟩ | exact ⟨rfl, trivial, hS⟩ | exact ⟨trivial, rfl, trivial⟩ | exact ⟨rfl, trivial⟩ | exact rfl
          · have k18 : vals 18 = .bool true := hφ 18 (hd 18 (by decide))
            have k19 : vals 19 = .slice (some ⟨b1, off1, none⟩) n cap1 := hφ 19 (hd 19 (by decide))
            have k21 : vals 21 = .int .i64 kp := hφ 21 (hd 21 (by decide))
            simp only [wpAt, List.getElem?_toArray, List.getElem?_cons_succ, List.getElem?_cons_zero, slotOf, frOf, Act.put]
            go_wp2_with fail
            first | exact ⟨trivial, rfl, trivial, hS⟩ | exact ⟨rfl, trivial, hS⟩ | exact ⟨trivial, rfl, trivial⟩ | exact ⟨rfl, trivial⟩ | exact rfl
          · have k18 : vals 18 = .bool true := hφ 18 (hd 18 (by decide))
            have k22 : vals 22 = .pointer (some ⟨b1, off1 + kp, none⟩) := hφ 22 (hd 22 (by decide))
            have d0 := (J.next hS.beh).cell kp hjn
            simp only [wpAt, List.getElem?_toArray, List.getElem?_cons_succ, List.getElem?_cons_zero, slotOf, frOf, Act.put]
            go_wp2_with fail
            first | exact ⟨trivial, rfl, trivial, hS⟩ | exact ⟨rfl, trivial, hS⟩ | exact ⟨trivial, rfl, trivial⟩ | exact ⟨rfl, trivial⟩ | exact rfl
          · have k18 : vals 18 = .bool true := hφ 18 (hd 18 (by decide))
            simp only [wpAt, List.getElem?_toArray, List.getElem?_cons_succ, List.getElem?_cons_zero, slotOf, frOf, Act.put]
            go_wp2_with fail
            first | exact ⟨trivial, rfl, trivial, hS⟩ | exact ⟨rfl, trivial, hS⟩ | exact ⟨trivial, rfl, trivial⟩ | exact ⟨rfl, trivial⟩ | exact rfl
          · have k18 : vals 18 = .bool true := hφ 18 (hd 18 (by decide))
            simp only [wpAt, List.getElem?_toArray, List.getElem?_cons_succ, List.getElem?_cons_zero, slotOf, frOf, Act.put]
            go_wp2_with fail
            first | exact ⟨trivial, rfl, trivial, hS⟩ | exact ⟨rfl, trivial, hS⟩ | exact ⟨trivial, rfl, trivial⟩ | exact ⟨rfl, trivial⟩ | exact rfl
          · have k18 : vals 18 = .bool true := hφ 18 (hd 18 (by decide))
            have k24 : vals 24 = .slice (some ⟨b1, off1, none⟩) n cap1 := hφ 24 (hd 24 (by decide))
            have k25 : vals 25 = .int .i64 k := hφ 25 (hd 25 (by decide))
            simp only [wpAt, List.getElem?_toArray, List.getElem?_cons_succ, List.getElem?_cons_zero, slotOf, frOf, Act.put]
            go_wp2_with fail
            first | exact ⟨trivial, rfl, trivial, hS⟩ | exact ⟨rfl, trivial, hS⟩ | exact ⟨trivial, rfl, trivial⟩ | exact ⟨rfl, trivial⟩ | exact rfl
          · have k18 : vals 18 = .bool true := hφ 18 (hd 18 (by decide))
            have k26 : vals 26 = .pointer (some ⟨b1, off1 + k, none⟩) := hφ 26 (hd 26 (by decide))
            have d0 := (J.next hS.beh).cell k hlt
            simp only [wpAt, List.getElem?_toArray, List.getElem?_cons_succ, List.getElem?_cons_zero, slotOf, frOf, Act.put]
            go_wp2_with fail
            first | exact ⟨trivial, rfl, trivial, hS⟩ | exact ⟨rfl, trivial, hS⟩ | exact ⟨trivial, rfl, trivial⟩ | exact ⟨rfl, trivial⟩ | exact rfl
          · have k18 : vals 18 = .bool true := hφ 18 (hd 18 (by decide))
            have k23 : vals 23 = .int .i64 (z kp) := hφ 23 (hd 23 (by decide))
            have k27 : vals 27 = .int .i64 (z k) := hφ 27 (hd 27 (by decide))
            simp only [wpAt, List.getElem?_toArray, List.getElem?_cons_succ, List.getElem?_cons_zero, slotOf, frOf, Act.put]
            go_wp2_with fail
            first | exact ⟨trivial, rfl, trivial, hS⟩ | exact ⟨rfl, trivial, hS⟩ | exact ⟨trivial, rfl, trivial⟩ | exact ⟨rfl, trivial⟩ | exact rfl
          · have k15 : vals 15 = .bool false := hφ 15 (hd 15 (by decide))
            have k18 : vals 18 = .bool true := hφ 18 (hd 18 (by decide))
            have k28 : vals 28 = .bool true := hφ 28 (hd 28 (by decide))
            simp only [wpAt, List.getElem?_toArray, List.getElem?_cons_succ, List.getElem?_cons_zero, slotOf, frOf, Act.put]
            go_wp2_with fail
            first | exact ⟨trivial, rfl, trivial, hS⟩ | exact ⟨rfl, trivial, hS⟩ | exact ⟨trivial, rfl, trivial⟩ | exact ⟨rfl, trivial⟩ | exact rfl
          · have k15 : vals 15 = .bool false := hφ 15 (hd 15 (by decide))
            have k29 : vals 29 = .bool true := hφ 29 (hd 29 (by decide))
            refine wpAt_of rfl rfl ?_
            simp only [frOf, Act.put]
            go_wp2_with fail
            first | exact ⟨trivial, rfl, trivial, hS⟩ | exact ⟨rfl, trivial, hS⟩ | exact ⟨trivial, rfl, trivial⟩ | exact ⟨rfl, trivial⟩ | exact rfl
        · intro L vals W hall hφ hS
          have k0 : vals 0 = .slice (some ⟨b1, off1, none⟩) n cap1 := hφ 0 (by decide)
          have k1 : vals 1 = .int .i64 k := hφ 1 (by decide)
          have k2 : vals 2 = .pointer (some ⟨b1, off1 + k, none⟩) := hφ 2 (by decide)
          have k3 : vals 3 = .int .i64 (z k) := hφ 3 (by decide)
          have k4 : vals 4 = .bool false := hφ 4 (by decide)
          have k5 : vals 5 = .bool false := hφ 5 (by decide)
          have k6 : vals 6 = .slice (some ⟨b1, off1, none⟩) n cap1 := hφ 6 (by decide)
          have k7 : vals 7 = .int .i64 k := hφ 7 (by decide)
          have k8 : vals 8 = .pointer (some ⟨b1, off1 + k, none⟩) := hφ 8 (by decide)
          have k9 : vals 9 = .int .i64 (z k) := hφ 9 (by decide)
          have k10 : vals 10 = .pointer (some ⟨w.heap.size, 0, none⟩) := hφ 10 (by decide)
          have k11 : vals 11 = .slice a m cap := hφ 11 (by decide)
          have k12 : vals 12 = .int .i64 m := hφ 12 (by decide)
          have k13 : vals 13 = .bool false := hφ 13 (by decide)
          have k14 : vals 14 = .bool false := hφ 14 (by decide)
          have k15 : vals 15 = .bool false := hφ 15 (by decide)
          have k16 : vals 16 = .int .i64 k := hφ 16 (by decide)
          have k17 : vals 17 = .bool true := hφ 17 (by decide)
          have k18 : vals 18 = .bool true := hφ 18 (by decide)
          have k19 : vals 19 = .slice (some ⟨b1, off1, none⟩) n cap1 := hφ 19 (by decide)
          have k20 : vals 20 = .int .i64 k := hφ 20 (by decide)
          have k21 : vals 21 = .int .i64 kp := hφ 21 (by decide)
          have k22 : vals 22 = .pointer (some ⟨b1, off1 + kp, none⟩) := hφ 22 (by decide)
          have k23 : vals 23 = .int .i64 (z kp) := hφ 23 (by decide)
          have k24 : vals 24 = .slice (some ⟨b1, off1, none⟩) n cap1 := hφ 24 (by decide)
          have k25 : vals 25 = .int .i64 k := hφ 25 (by decide)
          have k26 : vals 26 = .pointer (some ⟨b1, off1 + k, none⟩) := hφ 26 (by decide)
          have k27 : vals 27 = .int .i64 (z k) := hφ 27 (by decide)
          have k28 : vals 28 = .bool true := hφ 28 (by decide)
          have k29 : vals 29 = .bool true := hφ 29 (by decide)
          have k30 : vals 30 = .bool true := hφ 30 (by decide)
          simp only [frOf, Act.put, List.setIfInBounds_toArray, List.set_cons_succ, List.set_cons_zero, k0, k1, k2, k3, k4, k5, k6, k7, k8, k9, k10, k11, k12, k13, k14, k15, k16, k17, k18, k19, k20, k21, k22, k23, k24, k25, k26, k27, k28, k29, k30]
          clear k0 k1 k2 k3 k4 k5 k6 k7 k8 k9 k10 k11 k12 k13 k14 k15 k16 k17 k18 k19 k20 k21 k22 k23 k24 k25 k26 k27 k28 k29 k30 hall hφ hS0
          have H := hS.1
          clear hS
          go_wp2_with fail
          go_ret
          exact ⟨ret_bool (by rw [hR.out, partTo_false hlt (by rw [hAS.out]; simp; omega)]), H.below⟩
      have hDS : Hid (partAt m z k = true) := (by rw [hAS.out]; simp; omega : _ = _)
      have hDd : decide (z k ≤ z kp) = false := by simp; omega
      clear hD
      go_wp2_with fail
      refine region_inv3 [(0, 20), (1, 21), (2, 22), (3, 23), (4, 24), (5, 25), (6, 26), (7, 27), (8, 28), (9, 29), (10, 30), (11, 31), (12, 32), (13, 33), (14, 34), (15, 35), (16, 36), (17, 37), (18, 38), (19, 39), (20, 40), (21, 41), (22, 42), (23, 43), (24, 44), (25, 45), (26, 46), (27, 47), (28, 48), (29, 49), (30, 50)]
        (fun j v _ => match j with
          | 0 => Is (.slice (some ⟨b1, off1, none⟩) n cap1) v
          | 1 => Is (.int .i64 k) v
          | 2 => Is (.pointer (some ⟨b1, off1 + k, none⟩)) v
          | 3 => Is (.int .i64 (z k)) v
          | 4 => Is (.bool false) v
          | 5 => Is (.bool false) v
          | 6 => Is (.slice (some ⟨b1, off1, none⟩) n cap1) v
          | 7 => Is (.int .i64 k) v
          | 8 => Is (.pointer (some ⟨b1, off1 + k, none⟩)) v
          | 9 => Is (.int .i64 (z k)) v
          | 10 => Is (.pointer (some ⟨w.heap.size, 0, none⟩)) v
          | 11 => Is (.slice a m cap) v
          | 12 => Is (.int .i64 m) v
          | 13 => Is (.bool false) v
          | 14 => Is (.bool false) v
          | 15 => Is (.bool false) v
          | 16 => Is (.int .i64 k) v
          | 17 => Is (.bool true) v
          | 18 => Is (.bool true) v
          | 19 => Is (.slice (some ⟨b1, off1, none⟩) n cap1) v
          | 20 => Is (.int .i64 k) v
          | 21 => Is (.int .i64 kp) v
          | 22 => Is (.pointer (some ⟨b1, off1 + kp, none⟩)) v
          | 23 => Is (.int .i64 (z kp)) v
          | 24 => Is (.slice (some ⟨b1, off1, none⟩) n cap1) v
          | 25 => Is (.int .i64 k) v
          | 26 => Is (.pointer (some ⟨b1, off1 + k, none⟩)) v
          | 27 => Is (.int .i64 (z k)) v
          | 28 => Is (.bool false) v
          | 29 => Is (.bool false) v
          | 30 => Is (.bool false) v
          | _ => True)
        (fun _ W => HX w wr Lb W) TT
        (by kernel_rfl) (by kernel_rfl) (by kernel_rfl) (by kernel_rfl) (by kernel_rfl) rfl hS0 (fun i j v W W' _ h _ => h) ?_ ?_
      · intro i L vals W hi' hφ hS hL hd
        have hi2 : i < 31 := hi'
        clear hi'
        rcases (show i = 0 ∨ i = 1 ∨ i = 2 ∨ i = 3 ∨ i = 4 ∨ i = 5 ∨ i = 6 ∨ i = 7 ∨ i = 8 ∨ i = 9 ∨ i = 10 ∨ i = 11 ∨ i = 12 ∨ i = 13 ∨ i = 14 ∨ i = 15 ∨ i = 16 ∨ i = 17 ∨ i = 18 ∨ i = 19 ∨ i = 20 ∨ i = 21 ∨ i = 22 ∨ i = 23 ∨ i = 24 ∨ i = 25 ∨ i = 26 ∨ i = 27 ∨ i = 28 ∨ i = 29 ∨ i = 30 by omega) with rfl | rfl | rfl | rfl | rfl | rfl | rfl | rfl | rfl | rfl | rfl | rfl | rfl | rfl | rfl | rfl | rfl | rfl | rfl | rfl | rfl | rfl | rfl | rfl | rfl | rfl | rfl | rfl | rfl | rfl | rfl
        · refine wpAt_of rfl rfl ?_
          simp only [frOf, Act.put]
          go_wp2_with fail
          first | exact ⟨trivial, rfl, trivial, hS⟩ | exact ⟨rfl, trivial, hS⟩ | exact ⟨trivial, rfl, trivial⟩ | exact ⟨rfl, trivial⟩ | exact rfl
        · refine wpAt_of rfl rfl ?_
          simp only [frOf, Act.put]
          go_wp2_with fail
          first | exact ⟨trivial, rfl, trivial, hS⟩ | exact ⟨rfl, trivial, hS⟩ | exact ⟨trivial, rfl, trivial⟩ | exact ⟨rfl, trivial⟩ | exact rfl
        · have k0 : vals 0 = .slice (some ⟨b1, off1, none⟩) n cap1 := hφ 0 (hd 0 (by decide))
          have k1 : vals 1 = .int .i64 k := hφ 1 (hd 1 (by decide))
          refine wpAt_of rfl rfl ?_
          simp only [frOf, Act.put]
          go_wp2_with fail
          first | exact ⟨trivial, rfl, trivial, hS⟩ | exact ⟨rfl, trivial, hS⟩ | exact ⟨trivial, rfl, trivial⟩ | exact ⟨rfl, trivial⟩ | exact rfl
        · have k2 : vals 2 = .pointer (some ⟨b1, off1 + k, none⟩) := hφ 2 (hd 2 (by decide))
          have d0 := (J.next hS.beh).cell k hlt
          refine wpAt_of rfl rfl ?_
          simp only [frOf, Act.put]
          go_wp2_with fail
          first | exact ⟨trivial, rfl, trivial, hS⟩ | exact ⟨rfl, trivial, hS⟩ | exact ⟨trivial, rfl, trivial⟩ | exact ⟨rfl, trivial⟩ | exact rfl
        · have k3 : vals 3 = .int .i64 (z k) := hφ 3 (hd 3 (by decide))
          refine wpAt_of rfl rfl ?_
          simp only [frOf, Act.put]
          go_wp2_with fail
          first | exact ⟨trivial, rfl, trivial, hS⟩ | exact ⟨rfl, trivial, hS⟩ | exact ⟨trivial, rfl, trivial⟩ | exact ⟨rfl, trivial⟩ | exact rfl
        · have k4 : vals 4 = .bool false := hφ 4 (hd 4 (by decide))
          refine wpAt_of rfl rfl ?_
          simp only [frOf, Act.put]
          go_wp2_with fail
          first | exact ⟨trivial, rfl, trivial, hS⟩ | exact ⟨rfl, trivial, hS⟩ | exact ⟨trivial, rfl, trivial⟩ | exact ⟨rfl, trivial⟩ | exact rfl
        · have k5 : vals 5 = .bool false := hφ 5 (hd 5 (by decide))
          simp only [wpAt, List.getElem?_toArray, List.getElem?_cons_succ, List.getElem?_cons_zero, slotOf, frOf, Act.put]
          go_wp2_with fail
          first | exact ⟨trivial, rfl, trivial, hS⟩ | exact ⟨rfl, trivial, hS⟩ | exact ⟨trivial, rfl, trivial⟩ | exact ⟨rfl, trivial⟩ | exact rfl
        · have k5 : vals 5 = .bool false := hφ 5 (hd 5 (by decide))
          simp only [wpAt, List.getElem?_toArray, List.getElem?_cons_succ, List.getElem?_cons_zero, slotOf, frOf, Act.put]
          go_wp2_with fail
          first | exact ⟨trivial, rfl, trivial, hS⟩ | exact ⟨rfl, trivial, hS⟩ | exact ⟨trivial, rfl, trivial⟩ | exact ⟨rfl, trivial⟩ | exact rfl
        · have k5 : vals 5 = .bool false := hφ 5 (hd 5 (by decide))
          have k6 : vals 6 = .slice (some ⟨b1, off1, none⟩) n cap1 := hφ 6 (hd 6 (by decide))
          have k7 : vals 7 = .int .i64 k := hφ 7 (hd 7 (by decide))
          simp only [wpAt, List.getElem?_toArray, List.getElem?_cons_succ, List.getElem?_cons_zero, slotOf, frOf, Act.put]
          go_wp2_with fail
          first | exact ⟨trivial, rfl, trivial, hS⟩ | exact ⟨rfl, trivial, hS⟩ | exact ⟨trivial, rfl, trivial⟩ | exact ⟨rfl, trivial⟩ | exact rfl
        · have k5 : vals 5 = .bool false := hφ 5 (hd 5 (by decide))
          have k8 : vals 8 = .pointer (some ⟨b1, off1 + k, none⟩) := hφ 8 (hd 8 (by decide))
          have d0 := (J.next hS.beh).cell k hlt
          simp only [wpAt, List.getElem?_toArray, List.getElem?_cons_succ, List.getElem?_cons_zero, slotOf, frOf, Act.put]
          go_wp2_with fail
          first | exact ⟨trivial, rfl, trivial, hS⟩ | exact ⟨rfl, trivial, hS⟩ | exact ⟨trivial, rfl, trivial⟩ | exact ⟨rfl, trivial⟩ | exact rfl
        · have k5 : vals 5 = .bool false := hφ 5 (hd 5 (by decide))
          simp only [wpAt, List.getElem?_toArray, List.getElem?_cons_succ, List.getElem?_cons_zero, slotOf, frOf, Act.put]
          go_wp2_with fail
          first | exact ⟨trivial, rfl, trivial, hS⟩ | exact ⟨rfl, trivial, hS⟩ | exact ⟨trivial, rfl, trivial⟩ | exact ⟨rfl, trivial⟩ | exact rfl
        · have k5 : vals 5 = .bool false := hφ 5 (hd 5 (by decide))
          have k10 : vals 10 = .pointer (some ⟨w.heap.size, 0, none⟩) := hφ 10 (hd 10 (by decide))
          have c0 := hS.cell m0 (i := 0) rfl
          dsimp only at c0
          simp only [wpAt, List.getElem?_toArray, List.getElem?_cons_succ, List.getElem?_cons_zero, slotOf, frOf, Act.put]
          go_wp2_with fail
          first | exact ⟨trivial, rfl, trivial, hS⟩ | exact ⟨rfl, trivial, hS⟩ | exact ⟨trivial, rfl, trivial⟩ | exact ⟨rfl, trivial⟩ | exact rfl
        · have k5 : vals 5 = .bool false := hφ 5 (hd 5 (by decide))
          have k11 : vals 11 = .slice a m cap := hφ 11 (hd 11 (by decide))
          simp only [wpAt, List.getElem?_toArray, List.getElem?_cons_succ, List.getElem?_cons_zero, slotOf, frOf, Act.put]
          go_wp2_with fail
          first | exact ⟨trivial, rfl, trivial, hS⟩ | exact ⟨rfl, trivial, hS⟩ | exact ⟨trivial, rfl, trivial⟩ | exact ⟨rfl, trivial⟩ | exact rfl
        · have k5 : vals 5 = .bool false := hφ 5 (hd 5 (by decide))
          have k9 : vals 9 = .int .i64 (z k) := hφ 9 (hd 9 (by decide))
          have k12 : vals 12 = .int .i64 m := hφ 12 (hd 12 (by decide))
          simp only [wpAt, List.getElem?_toArray, List.getElem?_cons_succ, List.getElem?_cons_zero, slotOf, frOf, Act.put]
          go_wp2_with fail
          first | exact ⟨trivial, rfl, trivial, hS⟩ | exact ⟨rfl, trivial, hS⟩ | exact ⟨trivial, rfl, trivial⟩ | exact ⟨rfl, trivial⟩ | exact rfl
        · have k5 : vals 5 = .bool false := hφ 5 (hd 5 (by decide))
          have k13 : vals 13 = .bool false := hφ 13 (hd 13 (by decide))
          refine wpAt_of rfl rfl ?_
          simp only [frOf, Act.put]
          go_wp2_with fail
          first | exact ⟨trivial, rfl, trivial, hS⟩ | exact ⟨rfl, trivial, hS⟩ | exact ⟨trivial, rfl, trivial⟩ | exact ⟨rfl, trivial⟩ | exact rfl
        · have k14 : vals 14 = .bool false := hφ 14 (hd 14 (by decide))
          refine wpAt_of rfl rfl ?_
          simp only [frOf, Act.put]
          go_wp2_with fail
          first | exact ⟨trivial, rfl, trivial, hS⟩ | exact ⟨rfl, trivial, hS⟩ | exact ⟨trivial, rfl, trivial⟩ | exact ⟨rfl, trivial⟩ | exact rfl
        · have k15 : vals 15 = .bool false := hφ 15 (hd 15 (by decide))
          simp only [wpAt, List.getElem?_toArray, List.getElem?_cons_succ, List.getElem?_cons_zero, slotOf, frOf, Act.put]
          go_wp2_with fail
          first | exact ⟨trivial, rfl, trivial, hS⟩ | exact ⟨rfl, trivial, hS⟩ | exact ⟨trivial, rfl, trivial⟩ | exact ⟨rfl, trivial⟩ | exact rfl
        · have k15 : vals 15 = .bool false := hφ 15 (hd 15 (by decide))
          have k16 : vals 16 = .int .i64 k := hφ 16 (hd 16 (by decide))
          simp only [wpAt, List.getElem?_toArray, List.getElem?_cons_succ, List.getElem?_cons_zero, slotOf, frOf, Act.put]
          go_wp2_with fail
          first | exact ⟨trivial, rfl, trivial, hS⟩ | exact ⟨rfl, trivial, hS⟩ | exact ⟨trivial, rfl, trivial⟩ | exact ⟨rfl, trivial⟩ | exact rfl
        · have k15 : vals 15 = .bool false := hφ 15 (hd 15 (by decide))
          have k17 : vals 17 = .bool true := hφ 17 (hd 17 (by decide))
          simp only [wpAt, List.getElem?_toArray, List.getElem?_cons_succ, List.getElem?_cons_zero, slotOf, frOf, Act.put]
          go_wp2_with fail
          first | exact ⟨trivial, rfl, trivial, hS⟩ | exact ⟨rfl, trivial, hS⟩ | exact ⟨trivial, rfl, trivial⟩ | exact ⟨rfl, trivial⟩ | exact rfl
        · have k18 : vals 18 = .bool true := hφ 18 (hd 18 (by decide))
          simp only [wpAt, List.getElem?_toArray, List.getElem?_cons_succ, List.getElem?_cons_zero, slotOf, frOf, Act.put]
          go_wp2_with fail
          first | exact ⟨trivial, rfl, trivial, hS⟩ | exact ⟨rfl, trivial, hS⟩ | exact ⟨trivial, rfl, trivial⟩ | exact ⟨rfl, trivial⟩ | exact rfl
        · have k18 : vals 18 = .bool true := hφ 18 (hd 18 (by decide))
          simp only [wpAt, List.getElem?_toArray, List.getElem?_cons_succ, List.getElem?_cons_zero, slotOf, frOf, Act.put]
          go_wp2_with fail
          first | exact ⟨trivial, rfl, trivial, hS⟩ | exact ⟨rfl, trivial, hS⟩ | exact ⟨trivial, rfl, trivial⟩ | exact ⟨rfl, trivial⟩ | exact rfl
        · have k18 : vals 18 = .bool true := hφ 18 (hd 18 (by decide))
          have k20 : vals 20 = .int .i64 k := hφ 20 (hd 20 (by decide))
          simp only [wpAt, List.getElem?_toArray, List.getElem?_cons_succ, List.getElem?_cons_zero, slotOf, frOf, Act.put]
          go_wp2_with fail
          first | exact ⟨trivial, rfl, trivial, hS⟩ | exact ⟨rfl, trivial, hS⟩ | exact ⟨trivial, rfl, trivial⟩ | exact ⟨rfl, trivial⟩ | exact rfl
        · have k18 : vals 18 = .bool true := hφ 18 (hd 18 (by decide))
          have k19 : vals 19 = .slice (some ⟨b1, off1, none⟩) n cap1 := hφ 19 (hd 19 (by decide))
          have k21 : vals 21 = .int .i64 kp := hφ 21 (hd 21 (by decide))
          simp only [wpAt, List.getElem?_toArray, List.getElem?_cons_succ, List.getElem?_cons_zero, slotOf, frOf, Act.put]
          go_wp2_with fail
          first | exact ⟨trivial, rfl, trivial, hS⟩ | exact ⟨rfl, trivial, hS⟩ | exact ⟨trivial, rfl, trivial⟩ | exact ⟨rfl, trivial⟩ | exact rfl
        · have k18 : vals 18 = .bool true := hφ 18 (hd 18 (by decide))
          have k22 : vals 22 = .pointer (some ⟨b1, off1 + kp, none⟩) := hφ 22 (hd 22 (by decide))
          have d0 := (J.next hS.beh).cell kp hjn
          simp only [wpAt, List.getElem?_toArray, List.getElem?_cons_succ, List.getElem?_cons_zero, slotOf, frOf, Act.put]
          go_wp2_with fail
          first | exact ⟨trivial, rfl, trivial, hS⟩ | exact ⟨rfl, trivial, hS⟩ | exact ⟨trivial, rfl, trivial⟩ | exact ⟨rfl, trivial⟩ | exact rfl
        · have k18 : vals 18 = .bool true := hφ 18 (hd 18 (by decide))
          simp only [wpAt, List.getElem?_toArray, List.getElem?_cons_succ, List.getElem?_cons_zero, slotOf, frOf, Act.put]
          go_wp2_with fail
          first | exact ⟨trivial, rfl, trivial, hS⟩ | exact ⟨rfl, trivial, hS⟩ | exact ⟨trivial, rfl, trivial⟩ | exact ⟨rfl, trivial⟩ | exact rfl
        · have k18 : vals 18 = .bool true := hφ 18 (hd 18 (by decide))
          simp only [wpAt, List.getElem?_toArray, List.getElem?_cons_succ, List.getElem?_cons_zero, slotOf, frOf, Act.put]
          go_wp2_with fail
          first | exact ⟨trivial, rfl, trivial, hS⟩ | exact ⟨rfl, trivial, hS⟩ | exact ⟨trivial, rfl, trivial⟩ | exact ⟨rfl, trivial⟩ | exact rfl
        · have k18 : vals 18 = .bool true := hφ 18 (hd 18 (by decide))
          have k24 : vals 24 = .slice (some ⟨b1, off1, none⟩) n cap1 := hφ 24 (hd 24 (by decide))
          have k25 : vals 25 = .int .i64 k := hφ 25 (hd 25 (by decide))
          simp only [wpAt, List.getElem?_toArray, List.getElem?_cons_succ, List.getElem?_cons_zero, slotOf, frOf, Act.put]
          go_wp2_with fail
          first | exact ⟨trivial, rfl, trivial, hS⟩ | exact ⟨rfl, trivial, hS⟩ | exact ⟨trivial, rfl, trivial⟩ | exact ⟨rfl, trivial⟩ | exact rfl
        · have k18 : vals 18 = .bool true := hφ 18 (hd 18 (by decide))
          have k26 : vals 26 = .pointer (some ⟨b1, off1 + k, none⟩) := hφ 26 (hd 26 (by decide))
          have d0 := (J.next hS.beh).cell k hlt
          simp only [wpAt, List.getElem?_toArray, List.getElem?_cons_succ, List.getElem?_cons_zero, slotOf, frOf, Act.put]
          go_wp2_with fail
          first | exact ⟨trivial, rfl, trivial, hS⟩ | exact ⟨rfl, trivial, hS⟩ | exact ⟨trivial, rfl, trivial⟩ | exact ⟨rfl, trivial⟩ | exact rfl
        · have k18 : vals 18 = .bool true := hφ 18 (hd 18 (by decide))
          have k23 : vals 23 = .int .i64 (z kp) := hφ 23 (hd 23 (by decide))
          have k27 : vals 27 = .int .i64 (z k) := hφ 27 (hd 27 (by decide))
          simp only [wpAt, List.getElem?_toArray, List.getElem?_cons_succ, List.getElem?_cons_zero, slotOf, frOf, Act.put]
          go_wp2_with fail
          first | exact ⟨trivial, rfl, trivial, hS⟩ | exact ⟨rfl, trivial, hS⟩ | exact ⟨trivial, rfl, trivial⟩ | exact ⟨rfl, trivial⟩ | exact rfl
        · have k15 : vals 15 = .bool false := hφ 15 (hd 15 (by decide))
          have k18 : vals 18 = .bool true := hφ 18 (hd 18 (by decide))
          have k28 : vals 28 = .bool false := hφ 28 (hd 28 (by decide))
          simp only [wpAt, List.getElem?_toArray, List.getElem?_cons_succ, List.getElem?_cons_zero, slotOf, frOf, Act.put]
          go_wp2_with fail
          first | exact ⟨trivial, rfl, trivial, hS⟩ | exact ⟨rfl, trivial, hS⟩ | exact ⟨trivial, rfl, trivial⟩ | exact ⟨rfl, trivial⟩ | exact rfl
        · have k15 : vals 15 = .bool false := hφ 15 (hd 15 (by decide))
          have k29 : vals 29 = .bool false := hφ 29 (hd 29 (by decide))
          refine wpAt_of rfl rfl ?_
          simp only [frOf, Act.put]
          go_wp2_with fail
          first | exact ⟨trivial, rfl, trivial, hS⟩ | exact ⟨rfl, trivial, hS⟩ | exact ⟨trivial, rfl, trivial⟩ | exact ⟨rfl, trivial⟩ | exact rfl
      · intro L vals W hall hφ hS
        have k0 : vals 0 = .slice (some ⟨b1, off1, none⟩) n cap1 := hφ 0 (by decide)
        have k1 : vals 1 = .int .i64 k := hφ 1 (by decide)
        have k2 : vals 2 = .pointer (some ⟨b1, off1 + k, none⟩) := hφ 2 (by decide)
        have k3 : vals 3 = .int .i64 (z k) := hφ 3 (by decide)
        have k4 : vals 4 = .bool false := hφ 4 (by decide)
        have k5 : vals 5 = .bool false := hφ 5 (by decide)
        have k6 : vals 6 = .slice (some ⟨b1, off1, none⟩) n cap1 := hφ 6 (by decide)
        have k7 : vals 7 = .int .i64 k := hφ 7 (by decide)
        have k8 : vals 8 = .pointer (some ⟨b1, off1 + k, none⟩) := hφ 8 (by decide)
        have k9 : vals 9 = .int .i64 (z k) := hφ 9 (by decide)
        have k10 : vals 10 = .pointer (some ⟨w.heap.size, 0, none⟩) := hφ 10 (by decide)
        have k11 : vals 11 = .slice a m cap := hφ 11 (by decide)
        have k12 : vals 12 = .int .i64 m := hφ 12 (by decide)
        have k13 : vals 13 = .bool false := hφ 13 (by decide)
        have k14 : vals 14 = .bool false := hφ 14 (by decide)
        have k15 : vals 15 = .bool false := hφ 15 (by decide)
        have k16 : vals 16 = .int .i64 k := hφ 16 (by decide)
        have k17 : vals 17 = .bool true := hφ 17 (by decide)
        have k18 : vals 18 = .bool true := hφ 18 (by decide)
        have k19 : vals 19 = .slice (some ⟨b1, off1, none⟩) n cap1 := hφ 19 (by decide)
        have k20 : vals 20 = .int .i64 k := hφ 20 (by decide)
        have k21 : vals 21 = .int .i64 kp := hφ 21 (by decide)
        have k22 : vals 22 = .pointer (some ⟨b1, off1 + kp, none⟩) := hφ 22 (by decide)
        have k23 : vals 23 = .int .i64 (z kp) := hφ 23 (by decide)
        have k24 : vals 24 = .slice (some ⟨b1, off1, none⟩) n cap1 := hφ 24 (by decide)
        have k25 : vals 25 = .int .i64 k := hφ 25 (by decide)
        have k26 : vals 26 = .pointer (some ⟨b1, off1 + k, none⟩) := hφ 26 (by decide)
        have k27 : vals 27 = .int .i64 (z k) := hφ 27 (by decide)
        have k28 : vals 28 = .bool false := hφ 28 (by decide)
        have k29 : vals 29 = .bool false := hφ 29 (by decide)
        have k30 : vals 30 = .bool false := hφ 30 (by decide)
        simp only [frOf, Act.put, List.setIfInBounds_toArray, List.set_cons_succ, List.set_cons_zero, k0, k1, k2, k3, k4, k5, k6, k7, k8, k9, k10, k11, k12, k13, k14, k15, k16, k17, k18, k19, k20, k21, k22, k23, k24, k25, k26, k27, k28, k29, k30]
        clear k0 k1 k2 k3 k4 k5 k6 k7 k8 k9 k10 k11 k12 k13 k14 k15 k16 k17 k18 k19 k20 k21 k22 k23 k24 k25 k26 k27 k28 k29 k30 hall hφ hS0
        have H := hS.1
        replace J := J.next hS.2
        clear hS
        go_wp2_with fail
        go_roundw
        case rel => exact ⟨k + 1, by omega, by go_num, (by simp only [partTo, hO.out, hDS.out, Bool.and_self] : _ = _), H, J⟩
        case measure => simp [intOf]; omega
    · obtain rfl : k = n := by omega
      go_wp2_with fail
      go_ret
      exact ⟨ret_bool (by rw [hR.out, hO.out]), H.below⟩
set_option maxRecDepth 10000 in
set_option maxHeartbeats 8000000 in
theorem partI (a : Option Addr) (b off m cap : Nat) (P : Nat → Proc) (S : Nat → Spot) (a1 : Option Addr) (b1 off1 n cap1 : Nat) (z : Nat → Int) (w : World) (hm : m ≤ 1048576) (hN : ∀ i, i < m → (P i).n ≤ 1048576) (hn : n ≤ 1048576) (hP : ProcsAt a b off m P S w) (hZ : IntsAt a1 b1 off1 n z w) :
    Calls Try.prog 48 #[.agg #[.slice a m cap], .slice a1 n cap1] w fun e w' => e = .returned (.bool (partOk P m n z)) ∧ Below w.heap.size w w' := by
  by_cases h0 : n = 0
  · subst h0
    have H : HeldL w [(w.heap.size, [Value.slice a m cap])] (w.alloc (.cells #[.slice a m cap] 35)) := HeldL.newL (vs := [Value.slice a m cap]) (HeldL.nil w)
    go_enter Try.func48, Try.ntmps48
    go_wp2_with fail
    go_ret
    exact ⟨ret_bool (by simp [partOk]), H.below⟩
  have h0' : ((n : Int) == 0) = false := by simp; omega
  have H : HeldL w [(w.heap.size, [Value.slice a m cap])] (w.alloc (.cells #[.slice a m cap] 35)) := HeldL.newL (vs := [Value.slice a m cap]) (HeldL.nil w)
  obtain ⟨Lb, hLb⟩ : ∃ L, L = [(w.heap.size, [Value.slice a m cap])] := ⟨_, rfl⟩
  have m0 : (w.heap.size, [Value.slice a m cap]) ∈ Lb := by rw [hLb]; simp
  rw [← hLb] at H
  clear hLb
  have J := hZ.next H.below
  have Q := hP.next H.below
  clear hZ hP
  go_enter Try.func48, Try.ntmps48
  go_wp2_with fail
  have e1 := J.at_ (by omega)
  subst e1
  have hR : Hid (partOk P m n z = (prgOk P m && partTo m z n)) := (by simp [partOk, Nat.pos_of_ne_zero h0] : _ = _)
  go_loopw [12] (fun i wr => ∃ k : Nat, k ≤ n ∧ i = .int .i64 k ∧ Hid ((decide (k = 0) || prgOk P m && partTo m z k) = true) ∧ HeldL w Lb wr ∧ IntsAt (some ⟨b1, off1, none⟩) b1 off1 n z wr ∧ ProcsAt a b off m P S wr) (fun i _ => n - (intOf i).toNat)
  case atStart => exact ⟨0, Nat.zero_le _, rfl, (rfl : _ = _), H, J, Q⟩
  case round =>
    clear H J Q
    obtain ⟨k, hk, rfl, hO, H, J, Q⟩ := hrel
    by_cases hlt : k < n
    · have t1 : ((k : Int)).toNat = k := by omega
      have t2 : (0 : Int) ≤ (k : Int) := by omega
      have t3 : (k : Int) < (n : Int) := by omega
      have d0 := J.cell k hlt
      have c0 := H.cell m0 (i := 0) rfl
      dsimp only at c0
      go_wp2_with fail
      refine (hasPrcI _ _ _ _ _ _ _ _ _ hm hN Q).mono ?_
      rintro e w1 ⟨rfl, hb⟩
      replace H := H.next hb
      replace J := J.next hb
      replace Q := Q.next hb
      clear hb d0 c0
      have d0 := J.cell k hlt
      cases g : prgOk P m && placeB (z k) m
      · have hF : Hid ((prgOk P m && partTo m z n) = false) := (by
          rcases Bool.and_eq_false_iff.1 g with g | g
          · simp [g]
          · rw [partTo_false hlt (by simp [partAt, g])]; simp : _ = _)
        go_wp2_with fail
        go_ret
        exact ⟨ret_bool (by rw [hR.out, hF.out]), H.below⟩
      have gP : Hid (prgOk P m = true ∧ placeB (z k) m = true) := Bool.and_eq_true_iff.1 g
      clear g
      by_cases hC : k = 0
      · have hAS : Hid ((prgOk P m && partTo m z (k + 1)) = true) := (by simp only [partTo, partAt, gP.out.1, gP.out.2]; simp [hC, partTo] : _ = _)
        have hC' : decide (0 < k) = false := by simp; omega
        clear hC
        go_wp2_with fail
        go_roundw
        case rel => exact ⟨k + 1, by omega, by go_num, (by rw [hAS.out]; simp : _ = _), H, J, Q⟩
        case measure => simp [intOf]; omega
      have hC' : 0 < k := by omega
      have hOS : Hid (partTo m z k = true) := (by have := hO.out; simp [hC] at this; exact this.2 : _ = _)
      obtain ⟨kp, hj⟩ : ∃ kp, k = kp + 1 := ⟨k - 1, by omega⟩
      have hjn : kp < n := by omega
      have hw : IntKind.i64.wrap ((k : Int) - 1) = (kp : Int) := by simp [IntKind.wrap, IntKind.signed, IntKind.bits]; omega
      have j1 : ((kp : Int)).toNat = kp := by omega
      have j2 : (0 : Int) ≤ (kp : Int) := by omega
      have j3 : (kp : Int) < (n : Int) := by omega
      have d1 := J.cell kp hjn
      have hAS : Hid (partAt m z k = decide (z kp < z k)) := (by unfold partAt; rw [gP.out.2, hj]; simp : _ = _)
      clear hj hC
      by_cases hD : z k ≤ z kp
      · have hF : Hid (partTo m z n = false) := (partTo_false hlt (by rw [hAS.out]; simp; omega) : _ = _)
        go_wp2_with fail
        go_ret
        exact ⟨ret_bool (by rw [hR.out, hF.out]; simp), H.below⟩
      · have hG : Hid ((prgOk P m && partTo m z (k + 1)) = true) := (by simp only [partTo, gP.out.1, hOS.out, hAS.out]; simp; omega : _ = _)
        have hDd : decide (z k ≤ z kp) = false := by simp; omega
        clear hD
        go_wp2_with fail
        go_roundw
        case rel => exact ⟨k + 1, by omega, by go_num, (by rw [hG.out]; simp : _ = _), H, J, Q⟩
        case measure => simp [intOf]; omega
    · obtain rfl : k = n := by omega
      go_wp2_with fail
      go_ret
      exact ⟨ret_bool (by have := hO.out; simp [h0] at this; rw [hR.out, this.1, this.2]; rfl), H.below⟩
end Go.Proofs.Ytdpkbbbfnmneiaa
