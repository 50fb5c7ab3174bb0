/- Runs begun, plainly. -/
import Derived.Test.YtndedplmcjfgeaaRunNew
import Derived.Test.YtndedplmcjfgeaaRunIs
import Derived.Test.YtndedplmcjfgeaaRegInv
import Derived.Test.YtndedplmcjfgeaaGrfI2
import Derived.Test.YtndedplmcjfgeaaPrgOkS
namespace Go.Proofs.Ytndedplmcjfgeaa
open Go.ChangeShapes Go.WideShapes Go.ChangeAt Go.RowKit

/-- A run begins: the program is ok, there is such a procedure, and it may be given that. -/
def newB (P : Nat → Proc) (m : Nat) (proc arg : Int) : Bool := prgOk P m && placeQ proc m && inB arg (P proc.toNat).lo (P proc.toNat).hi
def newSt (P : Nat → Proc) (m : Nat) (proc arg : Int) : Int := if newB P m proc arg = true then 1 else 0
def newQ (P : Nat → Proc) (m : Nat) (proc arg : Int) : Nat := if newB P m proc arg = true then 1 else 0
theorem new_no {P : Nat → Proc} {m : Nat} {proc arg : Int} (h : newB P m proc arg = false) : newSt P m proc arg = 0 ∧ newQ P m proc arg = 0 := by simp [newSt, newQ, h]
theorem new_yes {P : Nat → Proc} {m : Nat} {proc arg : Int} (h : newB P m proc arg = true) : newSt P m proc arg = 1 ∧ newQ P m proc arg = 1 := by simp [newSt, newQ, h]
theorem runIs_one {B g g' : Nat} {proc arg : Int} {t : TypeId} {W : World} (hB : B ≤ W.heap.size) (h1 : B ≤ g ∧ g < W.heap.size) (h2 : B ≤ g' ∧ g' < W.heap.size) (hgg : g ≠ g') (I1 : IntsAt (some ⟨g, 0, none⟩) g 0 4 (entZ arg) W) (I2 : IntsAt (some ⟨g', 0, none⟩) g' 0 4 (fun _ => 0) W) (f1 : ∀ j, W.frozen? ⟨g, j, none⟩ = false) (f2 : ∀ j, W.frozen? ⟨g', j, none⟩ = false) :
    RunIs B 1 0 0 0 1 (fun _ => EnterF proc arg) (.agg #[.int .i64 1, .slice (some ⟨W.heap.size, 0, none⟩) 1 1, .int .i64 0, .int .i64 0, .int .i64 0]) (W.alloc (.cells #[.int .i64 proc, .int .i64 0, .slice (some ⟨g, 0, none⟩) 4 4, .slice (some ⟨g', 0, none⟩) 4 4] t)) := by
  have hb : Below W.heap.size W (W.alloc (.cells #[.int .i64 proc, .int .i64 0, .slice (some ⟨g, 0, none⟩) 4 4, .slice (some ⟨g', 0, none⟩) 4 4] t)) := (Below.refl _ _).alloc (Nat.le_refl _) _
  refine ⟨_, W.heap.size, fun _ => ⟨⟨some ⟨g, 0, none⟩, g, 0, 4⟩, ⟨some ⟨g', 0, none⟩, g', 0, 4⟩⟩, rfl, fun _ => ⟨rfl, ⟨fun _ => rfl, fun _ => by simp, ?_, ?_, ?_, ?_, fun _ _ => I1.next hb, fun _ _ => I2.next hb⟩, ⟨⟨hB, by simp⟩, fun i => World.frozen?_alloc_new _ _ _ _, fun i hi => ⟨h1.1, Nat.lt_of_lt_of_le h1.2 hb.size, fun j => ((bcell hb).2 g j h1.2).trans (f1 j)⟩, fun i hi => ⟨h2.1, Nat.lt_of_lt_of_le h2.2 hb.size, fun j => ((bcell hb).2 g' j h2.2).trans (f2 j)⟩, fun i hi => ⟨by show g ≠ W.heap.size; omega, by show g' ≠ W.heap.size; omega⟩, fun i k hi hk => hgg, fun i k hi hk _ => by omega, fun i k hi hk _ => by omega⟩⟩, fun i hi => rfl⟩
  all_goals
    intro i hi
    obtain rfl : i = 0 := by omega
    simp [go_sem, EnterF]
theorem prgOkS_is (a : Option Addr) (b off m cap : Nat) (P : Nat → Proc) (S : Nat → Spot) (t : Bool) (w : World) (hm : m ≤ 1048576) (hn : ∀ i, i < m → (P i).n ≤ 1048576) (hP : ProcsAt a b off m P S w) (ht : prgOk P m = t) :
    Calls Try.prog 18 #[.agg #[.slice a m cap]] w fun e w' => e = .returned (.bool t) ∧ Below w.heap.size w w' := by
  subst ht; exact prgOkS a b off m cap P S w hm hn hP
theorem inS_is (n x y : Int) (t : Bool) (w : World) (ht : inB n x y = t) :
    Calls Try.prog 41 #[.int .i64 n, .int .i64 x, .int .i64 y] w fun e w' => e = .returned (.bool t) ∧ Below w.heap.size w w' := by
  subst ht
  refine (inS n x y w).mono ?_
  rintro e w' ⟨rfl, rfl⟩
  exact ⟨rfl, Below.refl _ _⟩


set_option maxRecDepth 10000 in
set_option maxHeartbeats 8000000 in
theorem runNewS_1 (a : Option Addr) (b off m cap : Nat) (P : Nat → Proc) (S : Nat → Spot) (proc arg : Int) (w : World) (hm : m ≤ 1048576) (hn : ∀ i, i < m → (P i).n ≤ 1048576) (hP : ProcsAt a b off m P S w) (g : prgOk P m = false) :
    Calls Try.prog 27 #[.agg #[.slice a m cap], .int .i64 proc, .int .i64 arg] w fun e w' => ∃ v, e = .returned v ∧ RunIs w.heap.size (newSt P m proc arg) 0 0 0 (newQ P m proc arg) (fun _ => EnterF proc arg) v w' ∧ Below w.heap.size w w' := by
  have H0 : HeldL w [(w.heap.size + 1, [Value.int .i64 0, .slice none 0 0, .int .i64 0, .int .i64 0, .int .i64 0]), (w.heap.size, [Value.slice a m cap])] ((w.alloc (.cells #[.slice a m cap] 29)).alloc (.cells #[.int .i64 0, .slice none 0 0, .int .i64 0, .int .i64 0, .int .i64 0] 47)) := by
    have e1 : w.heap.size + 1 = (w.alloc (.cells #[.slice a m cap] 29)).heap.size := by simp
    rw [e1]
    exact HeldL.newL (vs := [Value.int .i64 0, .slice none 0 0, .int .i64 0, .int .i64 0, .int .i64 0]) (HeldL.newL (vs := [Value.slice a m cap]) (HeldL.nil w))
  obtain ⟨Lb, hLb⟩ : ∃ L, L = [(w.heap.size + 1, [Value.int .i64 0, .slice none 0 0, .int .i64 0, .int .i64 0, .int .i64 0]), (w.heap.size, [Value.slice a m cap])] := ⟨_, rfl⟩
  have mO : (w.heap.size + 1, [Value.int .i64 0, .slice none 0 0, .int .i64 0, .int .i64 0, .int .i64 0]) ∈ Lb := by rw [hLb]; simp
  have mP : (w.heap.size, [Value.slice a m cap]) ∈ Lb := by rw [hLb]; simp
  have hLS : Hid (Lb = [(w.heap.size + 1, [Value.int .i64 0, .slice none 0 0, .int .i64 0, .int .i64 0, .int .i64 0]), (w.heap.size, [Value.slice a m cap])]) := hLb
  rw [← hLb] at H0
  clear hLb
  have hT : Hid (newSt P m proc arg = 0 ∧ newQ P m proc arg = 0) := new_no (by simp [newB, g])
  have hg : Hid (prgOk P m = false) := g
  clear g
  go_enter Try.func27, Try.ntmps27
  go_wp2_with fail
  have hS0 := H0.drew
  clear H0
  refine region_inv3 [(0, 7), (1, 8), (2, 9), (3, 10), (4, 11), (5, 12), (6, 13), (7, 14), (8, 15), (9, 16), (10, 17), (11, 18), (12, 19), (13, 20), (14, 21), (15, 22), (16, 23), (17, 24), (18, 25), (19, 26), (20, 27), (21, 28), (22, 29), (23, 30), (24, 31), (25, 32), (26, 33), (27, 34), (28, 35), (29, 36), (30, 37)]
    (fun j vx _ => match j with
      | 0 => Is (.agg #[.slice a m cap]) vx
      | 1 => Is (.bool false) vx
      | 2 => Is (.bool true) vx
      | 3 => Is (.bool true) vx
      | 4 => Is (undef) vx
      | 5 => Is (undef) vx
      | 6 => Is (.bool true) vx
      | 7 => Is (.bool true) vx
      | 8 => Is (undef) vx
      | 9 => Is (undef) vx
      | 10 => Is (undef) vx
      | 11 => Is (undef) vx
      | 12 => Is (undef) vx
      | 13 => Is (.bool true) vx
      | 14 => Is (.bool true) vx
      | 15 => Is (undef) vx
      | 16 => Is (undef) vx
      | 17 => Is (undef) vx
      | 18 => Is (undef) vx
      | 19 => Is (undef) vx
      | 20 => Is (undef) vx
      | 21 => Is (undef) vx
      | 22 => Is (undef) vx
      | 23 => Is (undef) vx
      | 24 => Is (undef) vx
      | 25 => Is (undef) vx
      | 26 => Is (undef) vx
      | 27 => Is (undef) vx
      | 28 => Is (undef) vx
      | 29 => Is (undef) vx
      | 30 => Is (.bool true) vx
      | _ => True)
    (fun _ W => HeldL w Lb W) TT
    (by kernel_rfl) (by kernel_rfl) (by kernel_rfl) (by kernel_rfl) (by kernel_rfl) rfl hS0 (fun i j v W W' _ h _ => h) ?_ ?_
  · intro i L vals W hi' hφ hS hL hd
    have hi2 : i < 31 := hi'
    clear hi'
    rcases (show i = 0 ∨ i = 1 ∨ i = 2 ∨ i = 3 ∨ i = 4 ∨ i = 5 ∨ i = 6 ∨ i = 7 ∨ i = 8 ∨ i = 9 ∨ i = 10 ∨ i = 11 ∨ i = 12 ∨ i = 13 ∨ i = 14 ∨ i = 15 ∨ i = 16 ∨ i = 17 ∨ i = 18 ∨ i = 19 ∨ i = 20 ∨ i = 21 ∨ i = 22 ∨ i = 23 ∨ i = 24 ∨ i = 25 ∨ i = 26 ∨ i = 27 ∨ i = 28 ∨ i = 29 ∨ i = 30 by omega) with rfl | rfl | rfl | rfl | rfl | rfl | rfl | rfl | rfl | rfl | rfl | rfl | rfl | rfl | rfl | rfl | rfl | rfl | rfl | rfl | rfl | rfl | rfl | rfl | rfl | rfl | rfl | rfl | rfl | rfl | rfl
    · have c0 := HeldL.cell hS mP (i := 0) rfl
      dsimp only at c0
      refine wpAt_of rfl rfl ?_
      simp only [frOf, Act.put]
      go_wp2_with fail
      first | exact ⟨trivial, rfl, trivial, hS⟩ | exact ⟨rfl, trivial, hS⟩
    · have k0 : vals 0 = .agg #[.slice a m cap] := hφ 0 (hd 0 (by decide))
      refine wpAt_of rfl rfl ?_
      simp only [frOf, Act.put]
      go_wp2_with fail
      refine (prgOkS_is _ _ _ _ _ _ _ (false) _ hm hn (hP.next (HeldL.below hS)) hg.out).mono ?_
      rintro e W' ⟨rfl, hb⟩
      go_wp2_with fail
      first | exact ⟨trivial, rfl, trivial, HeldL.next hb hS⟩ | exact ⟨rfl, trivial, HeldL.next hb hS⟩
    · have k1 : vals 1 = .bool false := hφ 1 (hd 1 (by decide))
      refine wpAt_of rfl rfl ?_
      simp only [frOf, Act.put]
      go_wp2_with fail
      first | exact ⟨trivial, rfl, trivial, hS⟩ | exact ⟨rfl, trivial, hS⟩
    · have k2 : vals 2 = .bool true := hφ 2 (hd 2 (by decide))
      refine wpAt_of rfl rfl ?_
      simp only [frOf, Act.put]
      go_wp2_with fail
      first | exact ⟨trivial, rfl, trivial, hS⟩ | exact ⟨rfl, trivial, hS⟩
    · have k3 : vals 3 = .bool true := hφ 3 (hd 3 (by decide))
      simp only [wpAt, List.getElem?_toArray, List.getElem?_cons_succ, List.getElem?_cons_zero, slotOf, frOf, Act.put]
      go_wp2_with fail
      first | exact ⟨trivial, rfl, trivial, hS⟩ | exact ⟨rfl, trivial, hS⟩
    · have k3 : vals 3 = .bool true := hφ 3 (hd 3 (by decide))
      have k4 : vals 4 = undef := hφ 4 (hd 4 (by decide))
      simp only [wpAt, List.getElem?_toArray, List.getElem?_cons_succ, List.getElem?_cons_zero, slotOf, frOf, Act.put]
      go_wp2_with fail
      first | exact ⟨trivial, rfl, trivial, hS⟩ | exact ⟨rfl, trivial, hS⟩
    · have k3 : vals 3 = .bool true := hφ 3 (hd 3 (by decide))
      have k5 : vals 5 = undef := hφ 5 (hd 5 (by decide))
      refine wpAt_of rfl rfl ?_
      simp only [frOf, Act.put]
      go_wp2_with fail
      first | exact ⟨trivial, rfl, trivial, hS⟩ | exact ⟨rfl, trivial, hS⟩
    · have k6 : vals 6 = .bool true := hφ 6 (hd 6 (by decide))
      refine wpAt_of rfl rfl ?_
      simp only [frOf, Act.put]
      go_wp2_with fail
      first | exact ⟨trivial, rfl, trivial, hS⟩ | exact ⟨rfl, trivial, hS⟩
    · have k7 : vals 7 = .bool true := hφ 7 (hd 7 (by decide))
      simp only [wpAt, List.getElem?_toArray, List.getElem?_cons_succ, List.getElem?_cons_zero, slotOf, frOf, Act.put]
      go_wp2_with fail
      first | exact ⟨trivial, rfl, trivial, hS⟩ | exact ⟨rfl, trivial, hS⟩
    · have k7 : vals 7 = .bool true := hφ 7 (hd 7 (by decide))
      simp only [wpAt, List.getElem?_toArray, List.getElem?_cons_succ, List.getElem?_cons_zero, slotOf, frOf, Act.put]
      go_wp2_with fail
      first | exact ⟨trivial, rfl, trivial, hS⟩ | exact ⟨rfl, trivial, hS⟩
    · have k7 : vals 7 = .bool true := hφ 7 (hd 7 (by decide))
      have k9 : vals 9 = undef := hφ 9 (hd 9 (by decide))
      have c0 := HeldL.cell hS mP (i := 0) rfl
      dsimp only at c0
      simp only [wpAt, List.getElem?_toArray, List.getElem?_cons_succ, List.getElem?_cons_zero, slotOf, frOf, Act.put]
      go_wp2_with fail
      first | exact ⟨trivial, rfl, trivial, hS⟩ | exact ⟨rfl, trivial, hS⟩
    · have k7 : vals 7 = .bool true := hφ 7 (hd 7 (by decide))
      have k10 : vals 10 = undef := hφ 10 (hd 10 (by decide))
      simp only [wpAt, List.getElem?_toArray, List.getElem?_cons_succ, List.getElem?_cons_zero, slotOf, frOf, Act.put]
      go_wp2_with fail
      first | exact ⟨trivial, rfl, trivial, hS⟩ | exact ⟨rfl, trivial, hS⟩
    · have k7 : vals 7 = .bool true := hφ 7 (hd 7 (by decide))
      have k8 : vals 8 = undef := hφ 8 (hd 8 (by decide))
      have k11 : vals 11 = undef := hφ 11 (hd 11 (by decide))
      simp only [wpAt, List.getElem?_toArray, List.getElem?_cons_succ, List.getElem?_cons_zero, slotOf, frOf, Act.put]
      go_wp2_with fail
      first | exact ⟨trivial, rfl, trivial, hS⟩ | exact ⟨rfl, trivial, hS⟩
    · have k7 : vals 7 = .bool true := hφ 7 (hd 7 (by decide))
      have k12 : vals 12 = undef := hφ 12 (hd 12 (by decide))
      refine wpAt_of rfl rfl ?_
      simp only [frOf, Act.put]
      go_wp2_with fail
      first | exact ⟨trivial, rfl, trivial, hS⟩ | exact ⟨rfl, trivial, hS⟩
    · have k13 : vals 13 = .bool true := hφ 13 (hd 13 (by decide))
      refine wpAt_of rfl rfl ?_
      simp only [frOf, Act.put]
      go_wp2_with fail
      first | exact ⟨trivial, rfl, trivial, hS⟩ | exact ⟨rfl, trivial, hS⟩
    · have k14 : vals 14 = .bool true := hφ 14 (hd 14 (by decide))
      simp only [wpAt, List.getElem?_toArray, List.getElem?_cons_succ, List.getElem?_cons_zero, slotOf, frOf, Act.put]
      go_wp2_with fail
      first | exact ⟨trivial, rfl, trivial, hS⟩ | exact ⟨rfl, trivial, hS⟩
    · have k14 : vals 14 = .bool true := hφ 14 (hd 14 (by decide))
      simp only [wpAt, List.getElem?_toArray, List.getElem?_cons_succ, List.getElem?_cons_zero, slotOf, frOf, Act.put]
      go_wp2_with fail
      first | exact ⟨trivial, rfl, trivial, hS⟩ | exact ⟨rfl, trivial, hS⟩
    · have k14 : vals 14 = .bool true := hφ 14 (hd 14 (by decide))
      have k16 : vals 16 = undef := hφ 16 (hd 16 (by decide))
      have c0 := HeldL.cell hS mP (i := 0) rfl
      dsimp only at c0
      simp only [wpAt, List.getElem?_toArray, List.getElem?_cons_succ, List.getElem?_cons_zero, slotOf, frOf, Act.put]
      go_wp2_with fail
      first | exact ⟨trivial, rfl, trivial, hS⟩ | exact ⟨rfl, trivial, hS⟩
    · have k14 : vals 14 = .bool true := hφ 14 (hd 14 (by decide))
      simp only [wpAt, List.getElem?_toArray, List.getElem?_cons_succ, List.getElem?_cons_zero, slotOf, frOf, Act.put]
      go_wp2_with fail
      first | exact ⟨trivial, rfl, trivial, hS⟩ | exact ⟨rfl, trivial, hS⟩
    · have k14 : vals 14 = .bool true := hφ 14 (hd 14 (by decide))
      have k17 : vals 17 = undef := hφ 17 (hd 17 (by decide))
      have k18 : vals 18 = undef := hφ 18 (hd 18 (by decide))
      simp only [wpAt, List.getElem?_toArray, List.getElem?_cons_succ, List.getElem?_cons_zero, slotOf, frOf, Act.put]
      go_wp2_with fail
      first | exact ⟨trivial, rfl, trivial, hS⟩ | exact ⟨rfl, trivial, hS⟩
    · have k14 : vals 14 = .bool true := hφ 14 (hd 14 (by decide))
      have k19 : vals 19 = undef := hφ 19 (hd 19 (by decide))
      simp only [wpAt, List.getElem?_toArray, List.getElem?_cons_succ, List.getElem?_cons_zero, slotOf, frOf, Act.put]
      go_wp2_with fail
      first | exact ⟨trivial, rfl, trivial, hS⟩ | exact ⟨rfl, trivial, hS⟩
    · have k14 : vals 14 = .bool true := hφ 14 (hd 14 (by decide))
      have k20 : vals 20 = undef := hφ 20 (hd 20 (by decide))
      simp only [wpAt, List.getElem?_toArray, List.getElem?_cons_succ, List.getElem?_cons_zero, slotOf, frOf, Act.put]
      go_wp2_with fail
      first | exact ⟨trivial, rfl, trivial, hS⟩ | exact ⟨rfl, trivial, hS⟩
    · have k14 : vals 14 = .bool true := hφ 14 (hd 14 (by decide))
      simp only [wpAt, List.getElem?_toArray, List.getElem?_cons_succ, List.getElem?_cons_zero, slotOf, frOf, Act.put]
      go_wp2_with fail
      first | exact ⟨trivial, rfl, trivial, hS⟩ | exact ⟨rfl, trivial, hS⟩
    · have k14 : vals 14 = .bool true := hφ 14 (hd 14 (by decide))
      have k22 : vals 22 = undef := hφ 22 (hd 22 (by decide))
      have c0 := HeldL.cell hS mP (i := 0) rfl
      dsimp only at c0
      simp only [wpAt, List.getElem?_toArray, List.getElem?_cons_succ, List.getElem?_cons_zero, slotOf, frOf, Act.put]
      go_wp2_with fail
      first | exact ⟨trivial, rfl, trivial, hS⟩ | exact ⟨rfl, trivial, hS⟩
    · have k14 : vals 14 = .bool true := hφ 14 (hd 14 (by decide))
      simp only [wpAt, List.getElem?_toArray, List.getElem?_cons_succ, List.getElem?_cons_zero, slotOf, frOf, Act.put]
      go_wp2_with fail
      first | exact ⟨trivial, rfl, trivial, hS⟩ | exact ⟨rfl, trivial, hS⟩
    · have k14 : vals 14 = .bool true := hφ 14 (hd 14 (by decide))
      have k23 : vals 23 = undef := hφ 23 (hd 23 (by decide))
      have k24 : vals 24 = undef := hφ 24 (hd 24 (by decide))
      simp only [wpAt, List.getElem?_toArray, List.getElem?_cons_succ, List.getElem?_cons_zero, slotOf, frOf, Act.put]
      go_wp2_with fail
      first | exact ⟨trivial, rfl, trivial, hS⟩ | exact ⟨rfl, trivial, hS⟩
    · have k14 : vals 14 = .bool true := hφ 14 (hd 14 (by decide))
      have k25 : vals 25 = undef := hφ 25 (hd 25 (by decide))
      simp only [wpAt, List.getElem?_toArray, List.getElem?_cons_succ, List.getElem?_cons_zero, slotOf, frOf, Act.put]
      go_wp2_with fail
      first | exact ⟨trivial, rfl, trivial, hS⟩ | exact ⟨rfl, trivial, hS⟩
    · have k14 : vals 14 = .bool true := hφ 14 (hd 14 (by decide))
      have k26 : vals 26 = undef := hφ 26 (hd 26 (by decide))
      simp only [wpAt, List.getElem?_toArray, List.getElem?_cons_succ, List.getElem?_cons_zero, slotOf, frOf, Act.put]
      go_wp2_with fail
      first | exact ⟨trivial, rfl, trivial, hS⟩ | exact ⟨rfl, trivial, hS⟩
    · have k14 : vals 14 = .bool true := hφ 14 (hd 14 (by decide))
      have k15 : vals 15 = undef := hφ 15 (hd 15 (by decide))
      have k21 : vals 21 = undef := hφ 21 (hd 21 (by decide))
      have k27 : vals 27 = undef := hφ 27 (hd 27 (by decide))
      simp only [wpAt, List.getElem?_toArray, List.getElem?_cons_succ, List.getElem?_cons_zero, slotOf, frOf, Act.put]
      go_wp2_with fail
      first | exact ⟨trivial, rfl, trivial, hS⟩ | exact ⟨rfl, trivial, hS⟩
    · have k14 : vals 14 = .bool true := hφ 14 (hd 14 (by decide))
      have k28 : vals 28 = undef := hφ 28 (hd 28 (by decide))
      simp only [wpAt, List.getElem?_toArray, List.getElem?_cons_succ, List.getElem?_cons_zero, slotOf, frOf, Act.put]
      go_wp2_with fail
      first | exact ⟨trivial, rfl, trivial, hS⟩ | exact ⟨rfl, trivial, hS⟩
    · have k14 : vals 14 = .bool true := hφ 14 (hd 14 (by decide))
      have k29 : vals 29 = undef := hφ 29 (hd 29 (by decide))
      refine wpAt_of rfl rfl ?_
      simp only [frOf, Act.put]
      go_wp2_with fail
      first | exact ⟨trivial, rfl, trivial, hS⟩ | exact ⟨rfl, trivial, hS⟩
  · intro L vals W hall hφ hS
    have k0 : vals 0 = .agg #[.slice a m cap] := hφ 0 (by decide)
    have k1 : vals 1 = .bool false := hφ 1 (by decide)
    have k2 : vals 2 = .bool true := hφ 2 (by decide)
    have k3 : vals 3 = .bool true := hφ 3 (by decide)
    have k4 : vals 4 = undef := hφ 4 (by decide)
    have k5 : vals 5 = undef := hφ 5 (by decide)
    have k6 : vals 6 = .bool true := hφ 6 (by decide)
    have k7 : vals 7 = .bool true := hφ 7 (by decide)
    have k8 : vals 8 = undef := hφ 8 (by decide)
    have k9 : vals 9 = undef := hφ 9 (by decide)
    have k10 : vals 10 = undef := hφ 10 (by decide)
    have k11 : vals 11 = undef := hφ 11 (by decide)
    have k12 : vals 12 = undef := hφ 12 (by decide)
    have k13 : vals 13 = .bool true := hφ 13 (by decide)
    have k14 : vals 14 = .bool true := hφ 14 (by decide)
    have k15 : vals 15 = undef := hφ 15 (by decide)
    have k16 : vals 16 = undef := hφ 16 (by decide)
    have k17 : vals 17 = undef := hφ 17 (by decide)
    have k18 : vals 18 = undef := hφ 18 (by decide)
    have k19 : vals 19 = undef := hφ 19 (by decide)
    have k20 : vals 20 = undef := hφ 20 (by decide)
    have k21 : vals 21 = undef := hφ 21 (by decide)
    have k22 : vals 22 = undef := hφ 22 (by decide)
    have k23 : vals 23 = undef := hφ 23 (by decide)
    have k24 : vals 24 = undef := hφ 24 (by decide)
    have k25 : vals 25 = undef := hφ 25 (by decide)
    have k26 : vals 26 = undef := hφ 26 (by decide)
    have k27 : vals 27 = undef := hφ 27 (by decide)
    have k28 : vals 28 = undef := hφ 28 (by decide)
    have k29 : vals 29 = undef := hφ 29 (by decide)
    have k30 : vals 30 = .bool true := hφ 30 (by decide)
    simp only [frOf, Act.put, List.setIfInBounds_toArray, List.set_cons_succ, List.set_cons_zero, k0, k1, k2, k3, k4, k5, k6, k7, k8, k9, k10, k11, k12, k13, k14, k15, k16, k17, k18, k19, k20, k21, k22, k23, k24, k25, k26, k27, k28, k29, k30]
    clear k0 k1 k2 k3 k4 k5 k6 k7 k8 k9 k10 k11 k12 k13 k14 k15 k16 k17 k18 k19 k20 k21 k22 k23 k24 k25 k26 k27 k28 k29 k30
    have o0 := hS.cell mO (i := 0) rfl
    have o1 := hS.cell mO (i := 1) rfl
    have o2 := hS.cell mO (i := 2) rfl
    have o3 := hS.cell mO (i := 3) rfl
    have o4 := hS.cell mO (i := 4) rfl
    have fO := hS.free _ mO
    dsimp only at o0 o1 o2 o3 o4 fO
    obtain ⟨e0, e1, e2, e3, e4⟩ := own5c o0 o1 o2 o3 o4
    have bE := hS.below
    go_wp2_with fail
    refine bodyPost_ret (v := .agg #[.int .i64 0, .slice none 0 0, .int .i64 0, .int .i64 0, .int .i64 0]) (by simp [results, Try.results27, go_sem, e0, e1, e2, e3, e4]) rfl ⟨_, rfl, ?_, ?_⟩
    · rw [hT.out.1, hT.out.2]
      exact ⟨none, 0, fun _ => ⟨⟨none, 0, 0, 0⟩, ⟨none, 0, 0, 0⟩⟩, rfl, fun h => by omega, fun i hi => by omega⟩
    · exact setAll_below (by omega) [.int .i64 0, .slice none 0 0, .int .i64 0, .int .i64 0, .int .i64 0] 0 _ bE

set_option maxRecDepth 10000 in
set_option maxHeartbeats 8000000 in
theorem runNewS_2 (a : Option Addr) (b off m cap : Nat) (P : Nat → Proc) (S : Nat → Spot) (proc arg : Int) (w : World) (hm : m ≤ 1048576) (hn : ∀ i, i < m → (P i).n ≤ 1048576) (hP : ProcsAt a b off m P S w) (g : prgOk P m = true) (h1 : proc < 0) :
    Calls Try.prog 27 #[.agg #[.slice a m cap], .int .i64 proc, .int .i64 arg] w fun e w' => ∃ v, e = .returned v ∧ RunIs w.heap.size (newSt P m proc arg) 0 0 0 (newQ P m proc arg) (fun _ => EnterF proc arg) v w' ∧ Below w.heap.size w w' := by
  have H0 : HeldL w [(w.heap.size + 1, [Value.int .i64 0, .slice none 0 0, .int .i64 0, .int .i64 0, .int .i64 0]), (w.heap.size, [Value.slice a m cap])] ((w.alloc (.cells #[.slice a m cap] 29)).alloc (.cells #[.int .i64 0, .slice none 0 0, .int .i64 0, .int .i64 0, .int .i64 0] 47)) := by
    have e1 : w.heap.size + 1 = (w.alloc (.cells #[.slice a m cap] 29)).heap.size := by simp
    rw [e1]
    exact HeldL.newL (vs := [Value.int .i64 0, .slice none 0 0, .int .i64 0, .int .i64 0, .int .i64 0]) (HeldL.newL (vs := [Value.slice a m cap]) (HeldL.nil w))
  obtain ⟨Lb, hLb⟩ : ∃ L, L = [(w.heap.size + 1, [Value.int .i64 0, .slice none 0 0, .int .i64 0, .int .i64 0, .int .i64 0]), (w.heap.size, [Value.slice a m cap])] := ⟨_, rfl⟩
  have mO : (w.heap.size + 1, [Value.int .i64 0, .slice none 0 0, .int .i64 0, .int .i64 0, .int .i64 0]) ∈ Lb := by rw [hLb]; simp
  have mP : (w.heap.size, [Value.slice a m cap]) ∈ Lb := by rw [hLb]; simp
  have hLS : Hid (Lb = [(w.heap.size + 1, [Value.int .i64 0, .slice none 0 0, .int .i64 0, .int .i64 0, .int .i64 0]), (w.heap.size, [Value.slice a m cap])]) := hLb
  rw [← hLb] at H0
  clear hLb
  have hT : Hid (newSt P m proc arg = 0 ∧ newQ P m proc arg = 0) := new_no (by simp [newB, placeQ]; omega)
  have hg : Hid (prgOk P m = true) := g
  clear g
  go_enter Try.func27, Try.ntmps27
  go_wp2_with fail
  have hS0 := H0.drew
  clear H0
  refine region_inv3 [(0, 7), (1, 8), (2, 9), (3, 10), (4, 11), (5, 12), (6, 13), (7, 14), (8, 15), (9, 16), (10, 17), (11, 18), (12, 19), (13, 20), (14, 21), (15, 22), (16, 23), (17, 24), (18, 25), (19, 26), (20, 27), (21, 28), (22, 29), (23, 30), (24, 31), (25, 32), (26, 33), (27, 34), (28, 35), (29, 36), (30, 37)]
    (fun j vx _ => match j with
      | 0 => Is (.agg #[.slice a m cap]) vx
      | 1 => Is (.bool true) vx
      | 2 => Is (.bool false) vx
      | 3 => Is (.bool false) vx
      | 4 => Is (.int .i64 proc) vx
      | 5 => Is (.bool true) vx
      | 6 => Is (.bool true) vx
      | 7 => Is (.bool true) vx
      | 8 => Is (undef) vx
      | 9 => Is (undef) vx
      | 10 => Is (undef) vx
      | 11 => Is (undef) vx
      | 12 => Is (undef) vx
      | 13 => Is (.bool true) vx
      | 14 => Is (.bool true) vx
      | 15 => Is (undef) vx
      | 16 => Is (undef) vx
      | 17 => Is (undef) vx
      | 18 => Is (undef) vx
      | 19 => Is (undef) vx
      | 20 => Is (undef) vx
      | 21 => Is (undef) vx
      | 22 => Is (undef) vx
      | 23 => Is (undef) vx
      | 24 => Is (undef) vx
      | 25 => Is (undef) vx
      | 26 => Is (undef) vx
      | 27 => Is (undef) vx
      | 28 => Is (undef) vx
      | 29 => Is (undef) vx
      | 30 => Is (.bool true) vx
      | _ => True)
    (fun _ W => HeldL w Lb W) TT
    (by kernel_rfl) (by kernel_rfl) (by kernel_rfl) (by kernel_rfl) (by kernel_rfl) rfl hS0 (fun i j v W W' _ h _ => h) ?_ ?_
  · intro i L vals W hi' hφ hS hL hd
    have hi2 : i < 31 := hi'
    clear hi'
    rcases (show i = 0 ∨ i = 1 ∨ i = 2 ∨ i = 3 ∨ i = 4 ∨ i = 5 ∨ i = 6 ∨ i = 7 ∨ i = 8 ∨ i = 9 ∨ i = 10 ∨ i = 11 ∨ i = 12 ∨ i = 13 ∨ i = 14 ∨ i = 15 ∨ i = 16 ∨ i = 17 ∨ i = 18 ∨ i = 19 ∨ i = 20 ∨ i = 21 ∨ i = 22 ∨ i = 23 ∨ i = 24 ∨ i = 25 ∨ i = 26 ∨ i = 27 ∨ i = 28 ∨ i = 29 ∨ i = 30 by omega) with rfl | rfl | rfl | rfl | rfl | rfl | rfl | rfl | rfl | rfl | rfl | rfl | rfl | rfl | rfl | rfl | rfl | rfl | rfl | rfl | rfl | rfl | rfl | rfl | rfl | rfl | rfl | rfl | rfl | rfl | rfl
    · have c0 := HeldL.cell hS mP (i := 0) rfl
      dsimp only at c0
      refine wpAt_of rfl rfl ?_
      simp only [frOf, Act.put]
      go_wp2_with fail
      first | exact ⟨trivial, rfl, trivial, hS⟩ | exact ⟨rfl, trivial, hS⟩
    · have k0 : vals 0 = .agg #[.slice a m cap] := hφ 0 (hd 0 (by decide))
      refine wpAt_of rfl rfl ?_
      simp only [frOf, Act.put]
      go_wp2_with fail
      refine (prgOkS_is _ _ _ _ _ _ _ (true) _ hm hn (hP.next (HeldL.below hS)) hg.out).mono ?_
      rintro e W' ⟨rfl, hb⟩
      go_wp2_with fail
      first | exact ⟨trivial, rfl, trivial, HeldL.next hb hS⟩ | exact ⟨rfl, trivial, HeldL.next hb hS⟩
    · have k1 : vals 1 = .bool true := hφ 1 (hd 1 (by decide))
      refine wpAt_of rfl rfl ?_
      simp only [frOf, Act.put]
      go_wp2_with fail
      first | exact ⟨trivial, rfl, trivial, hS⟩ | exact ⟨rfl, trivial, hS⟩
    · have k2 : vals 2 = .bool false := hφ 2 (hd 2 (by decide))
      refine wpAt_of rfl rfl ?_
      simp only [frOf, Act.put]
      go_wp2_with fail
      first | exact ⟨trivial, rfl, trivial, hS⟩ | exact ⟨rfl, trivial, hS⟩
    · have k3 : vals 3 = .bool false := hφ 3 (hd 3 (by decide))
      simp only [wpAt, List.getElem?_toArray, List.getElem?_cons_succ, List.getElem?_cons_zero, slotOf, frOf, Act.put]
      go_wp2_with fail
      first | exact ⟨trivial, rfl, trivial, hS⟩ | exact ⟨rfl, trivial, hS⟩
    · have k3 : vals 3 = .bool false := hφ 3 (hd 3 (by decide))
      have k4 : vals 4 = .int .i64 proc := hφ 4 (hd 4 (by decide))
      simp only [wpAt, List.getElem?_toArray, List.getElem?_cons_succ, List.getElem?_cons_zero, slotOf, frOf, Act.put]
      go_wp2_with fail
      first | exact ⟨trivial, rfl, trivial, hS⟩ | exact ⟨rfl, trivial, hS⟩
    · have k3 : vals 3 = .bool false := hφ 3 (hd 3 (by decide))
      have k5 : vals 5 = .bool true := hφ 5 (hd 5 (by decide))
      refine wpAt_of rfl rfl ?_
      simp only [frOf, Act.put]
      go_wp2_with fail
      first | exact ⟨trivial, rfl, trivial, hS⟩ | exact ⟨rfl, trivial, hS⟩
    · have k6 : vals 6 = .bool true := hφ 6 (hd 6 (by decide))
      refine wpAt_of rfl rfl ?_
      simp only [frOf, Act.put]
      go_wp2_with fail
      first | exact ⟨trivial, rfl, trivial, hS⟩ | exact ⟨rfl, trivial, hS⟩
    · have k7 : vals 7 = .bool true := hφ 7 (hd 7 (by decide))
      simp only [wpAt, List.getElem?_toArray, List.getElem?_cons_succ, List.getElem?_cons_zero, slotOf, frOf, Act.put]
      go_wp2_with fail
      first | exact ⟨trivial, rfl, trivial, hS⟩ | exact ⟨rfl, trivial, hS⟩
    · have k7 : vals 7 = .bool true := hφ 7 (hd 7 (by decide))
      simp only [wpAt, List.getElem?_toArray, List.getElem?_cons_succ, List.getElem?_cons_zero, slotOf, frOf, Act.put]
      go_wp2_with fail
      first | exact ⟨trivial, rfl, trivial, hS⟩ | exact ⟨rfl, trivial, hS⟩
    · have k7 : vals 7 = .bool true := hφ 7 (hd 7 (by decide))
      have k9 : vals 9 = undef := hφ 9 (hd 9 (by decide))
      have c0 := HeldL.cell hS mP (i := 0) rfl
      dsimp only at c0
      simp only [wpAt, List.getElem?_toArray, List.getElem?_cons_succ, List.getElem?_cons_zero, slotOf, frOf, Act.put]
      go_wp2_with fail
      first | exact ⟨trivial, rfl, trivial, hS⟩ | exact ⟨rfl, trivial, hS⟩
    · have k7 : vals 7 = .bool true := hφ 7 (hd 7 (by decide))
      have k10 : vals 10 = undef := hφ 10 (hd 10 (by decide))
      simp only [wpAt, List.getElem?_toArray, List.getElem?_cons_succ, List.getElem?_cons_zero, slotOf, frOf, Act.put]
      go_wp2_with fail
      first | exact ⟨trivial, rfl, trivial, hS⟩ | exact ⟨rfl, trivial, hS⟩
    · have k7 : vals 7 = .bool true := hφ 7 (hd 7 (by decide))
      have k8 : vals 8 = undef := hφ 8 (hd 8 (by decide))
      have k11 : vals 11 = undef := hφ 11 (hd 11 (by decide))
      simp only [wpAt, List.getElem?_toArray, List.getElem?_cons_succ, List.getElem?_cons_zero, slotOf, frOf, Act.put]
      go_wp2_with fail
      first | exact ⟨trivial, rfl, trivial, hS⟩ | exact ⟨rfl, trivial, hS⟩
    · have k7 : vals 7 = .bool true := hφ 7 (hd 7 (by decide))
      have k12 : vals 12 = undef := hφ 12 (hd 12 (by decide))
      refine wpAt_of rfl rfl ?_
      simp only [frOf, Act.put]
      go_wp2_with fail
      first | exact ⟨trivial, rfl, trivial, hS⟩ | exact ⟨rfl, trivial, hS⟩
    · have k13 : vals 13 = .bool true := hφ 13 (hd 13 (by decide))
      refine wpAt_of rfl rfl ?_
      simp only [frOf, Act.put]
      go_wp2_with fail
      first | exact ⟨trivial, rfl, trivial, hS⟩ | exact ⟨rfl, trivial, hS⟩
    · have k14 : vals 14 = .bool true := hφ 14 (hd 14 (by decide))
      simp only [wpAt, List.getElem?_toArray, List.getElem?_cons_succ, List.getElem?_cons_zero, slotOf, frOf, Act.put]
      go_wp2_with fail
      first | exact ⟨trivial, rfl, trivial, hS⟩ | exact ⟨rfl, trivial, hS⟩
    · have k14 : vals 14 = .bool true := hφ 14 (hd 14 (by decide))
      simp only [wpAt, List.getElem?_toArray, List.getElem?_cons_succ, List.getElem?_cons_zero, slotOf, frOf, Act.put]
      go_wp2_with fail
      first | exact ⟨trivial, rfl, trivial, hS⟩ | exact ⟨rfl, trivial, hS⟩
    · have k14 : vals 14 = .bool true := hφ 14 (hd 14 (by decide))
      have k16 : vals 16 = undef := hφ 16 (hd 16 (by decide))
      have c0 := HeldL.cell hS mP (i := 0) rfl
      dsimp only at c0
      simp only [wpAt, List.getElem?_toArray, List.getElem?_cons_succ, List.getElem?_cons_zero, slotOf, frOf, Act.put]
      go_wp2_with fail
      first | exact ⟨trivial, rfl, trivial, hS⟩ | exact ⟨rfl, trivial, hS⟩
    · have k14 : vals 14 = .bool true := hφ 14 (hd 14 (by decide))
      simp only [wpAt, List.getElem?_toArray, List.getElem?_cons_succ, List.getElem?_cons_zero, slotOf, frOf, Act.put]
      go_wp2_with fail
      first | exact ⟨trivial, rfl, trivial, hS⟩ | exact ⟨rfl, trivial, hS⟩
    · have k14 : vals 14 = .bool true := hφ 14 (hd 14 (by decide))
      have k17 : vals 17 = undef := hφ 17 (hd 17 (by decide))
      have k18 : vals 18 = undef := hφ 18 (hd 18 (by decide))
      simp only [wpAt, List.getElem?_toArray, List.getElem?_cons_succ, List.getElem?_cons_zero, slotOf, frOf, Act.put]
      go_wp2_with fail
      first | exact ⟨trivial, rfl, trivial, hS⟩ | exact ⟨rfl, trivial, hS⟩
    · have k14 : vals 14 = .bool true := hφ 14 (hd 14 (by decide))
      have k19 : vals 19 = undef := hφ 19 (hd 19 (by decide))
      simp only [wpAt, List.getElem?_toArray, List.getElem?_cons_succ, List.getElem?_cons_zero, slotOf, frOf, Act.put]
      go_wp2_with fail
      first | exact ⟨trivial, rfl, trivial, hS⟩ | exact ⟨rfl, trivial, hS⟩
    · have k14 : vals 14 = .bool true := hφ 14 (hd 14 (by decide))
      have k20 : vals 20 = undef := hφ 20 (hd 20 (by decide))
      simp only [wpAt, List.getElem?_toArray, List.getElem?_cons_succ, List.getElem?_cons_zero, slotOf, frOf, Act.put]
      go_wp2_with fail
      first | exact ⟨trivial, rfl, trivial, hS⟩ | exact ⟨rfl, trivial, hS⟩
    · have k14 : vals 14 = .bool true := hφ 14 (hd 14 (by decide))
      simp only [wpAt, List.getElem?_toArray, List.getElem?_cons_succ, List.getElem?_cons_zero, slotOf, frOf, Act.put]
      go_wp2_with fail
      first | exact ⟨trivial, rfl, trivial, hS⟩ | exact ⟨rfl, trivial, hS⟩
    · have k14 : vals 14 = .bool true := hφ 14 (hd 14 (by decide))
      have k22 : vals 22 = undef := hφ 22 (hd 22 (by decide))
      have c0 := HeldL.cell hS mP (i := 0) rfl
      dsimp only at c0
      simp only [wpAt, List.getElem?_toArray, List.getElem?_cons_succ, List.getElem?_cons_zero, slotOf, frOf, Act.put]
      go_wp2_with fail
      first | exact ⟨trivial, rfl, trivial, hS⟩ | exact ⟨rfl, trivial, hS⟩
    · have k14 : vals 14 = .bool true := hφ 14 (hd 14 (by decide))
      simp only [wpAt, List.getElem?_toArray, List.getElem?_cons_succ, List.getElem?_cons_zero, slotOf, frOf, Act.put]
      go_wp2_with fail
      first | exact ⟨trivial, rfl, trivial, hS⟩ | exact ⟨rfl, trivial, hS⟩
    · have k14 : vals 14 = .bool true := hφ 14 (hd 14 (by decide))
      have k23 : vals 23 = undef := hφ 23 (hd 23 (by decide))
      have k24 : vals 24 = undef := hφ 24 (hd 24 (by decide))
      simp only [wpAt, List.getElem?_toArray, List.getElem?_cons_succ, List.getElem?_cons_zero, slotOf, frOf, Act.put]
      go_wp2_with fail
      first | exact ⟨trivial, rfl, trivial, hS⟩ | exact ⟨rfl, trivial, hS⟩
    · have k14 : vals 14 = .bool true := hφ 14 (hd 14 (by decide))
      have k25 : vals 25 = undef := hφ 25 (hd 25 (by decide))
      simp only [wpAt, List.getElem?_toArray, List.getElem?_cons_succ, List.getElem?_cons_zero, slotOf, frOf, Act.put]
      go_wp2_with fail
      first | exact ⟨trivial, rfl, trivial, hS⟩ | exact ⟨rfl, trivial, hS⟩
    · have k14 : vals 14 = .bool true := hφ 14 (hd 14 (by decide))
      have k26 : vals 26 = undef := hφ 26 (hd 26 (by decide))
      simp only [wpAt, List.getElem?_toArray, List.getElem?_cons_succ, List.getElem?_cons_zero, slotOf, frOf, Act.put]
      go_wp2_with fail
      first | exact ⟨trivial, rfl, trivial, hS⟩ | exact ⟨rfl, trivial, hS⟩
    · have k14 : vals 14 = .bool true := hφ 14 (hd 14 (by decide))
      have k15 : vals 15 = undef := hφ 15 (hd 15 (by decide))
      have k21 : vals 21 = undef := hφ 21 (hd 21 (by decide))
      have k27 : vals 27 = undef := hφ 27 (hd 27 (by decide))
      simp only [wpAt, List.getElem?_toArray, List.getElem?_cons_succ, List.getElem?_cons_zero, slotOf, frOf, Act.put]
      go_wp2_with fail
      first | exact ⟨trivial, rfl, trivial, hS⟩ | exact ⟨rfl, trivial, hS⟩
    · have k14 : vals 14 = .bool true := hφ 14 (hd 14 (by decide))
      have k28 : vals 28 = undef := hφ 28 (hd 28 (by decide))
      simp only [wpAt, List.getElem?_toArray, List.getElem?_cons_succ, List.getElem?_cons_zero, slotOf, frOf, Act.put]
      go_wp2_with fail
      first | exact ⟨trivial, rfl, trivial, hS⟩ | exact ⟨rfl, trivial, hS⟩
    · have k14 : vals 14 = .bool true := hφ 14 (hd 14 (by decide))
      have k29 : vals 29 = undef := hφ 29 (hd 29 (by decide))
      refine wpAt_of rfl rfl ?_
      simp only [frOf, Act.put]
      go_wp2_with fail
      first | exact ⟨trivial, rfl, trivial, hS⟩ | exact ⟨rfl, trivial, hS⟩
  · intro L vals W hall hφ hS
    have k0 : vals 0 = .agg #[.slice a m cap] := hφ 0 (by decide)
    have k1 : vals 1 = .bool true := hφ 1 (by decide)
    have k2 : vals 2 = .bool false := hφ 2 (by decide)
    have k3 : vals 3 = .bool false := hφ 3 (by decide)
    have k4 : vals 4 = .int .i64 proc := hφ 4 (by decide)
    have k5 : vals 5 = .bool true := hφ 5 (by decide)
    have k6 : vals 6 = .bool true := hφ 6 (by decide)
    have k7 : vals 7 = .bool true := hφ 7 (by decide)
    have k8 : vals 8 = undef := hφ 8 (by decide)
    have k9 : vals 9 = undef := hφ 9 (by decide)
    have k10 : vals 10 = undef := hφ 10 (by decide)
    have k11 : vals 11 = undef := hφ 11 (by decide)
    have k12 : vals 12 = undef := hφ 12 (by decide)
    have k13 : vals 13 = .bool true := hφ 13 (by decide)
    have k14 : vals 14 = .bool true := hφ 14 (by decide)
    have k15 : vals 15 = undef := hφ 15 (by decide)
    have k16 : vals 16 = undef := hφ 16 (by decide)
    have k17 : vals 17 = undef := hφ 17 (by decide)
    have k18 : vals 18 = undef := hφ 18 (by decide)
    have k19 : vals 19 = undef := hφ 19 (by decide)
    have k20 : vals 20 = undef := hφ 20 (by decide)
    have k21 : vals 21 = undef := hφ 21 (by decide)
    have k22 : vals 22 = undef := hφ 22 (by decide)
    have k23 : vals 23 = undef := hφ 23 (by decide)
    have k24 : vals 24 = undef := hφ 24 (by decide)
    have k25 : vals 25 = undef := hφ 25 (by decide)
    have k26 : vals 26 = undef := hφ 26 (by decide)
    have k27 : vals 27 = undef := hφ 27 (by decide)
    have k28 : vals 28 = undef := hφ 28 (by decide)
    have k29 : vals 29 = undef := hφ 29 (by decide)
    have k30 : vals 30 = .bool true := hφ 30 (by decide)
    simp only [frOf, Act.put, List.setIfInBounds_toArray, List.set_cons_succ, List.set_cons_zero, k0, k1, k2, k3, k4, k5, k6, k7, k8, k9, k10, k11, k12, k13, k14, k15, k16, k17, k18, k19, k20, k21, k22, k23, k24, k25, k26, k27, k28, k29, k30]
    clear k0 k1 k2 k3 k4 k5 k6 k7 k8 k9 k10 k11 k12 k13 k14 k15 k16 k17 k18 k19 k20 k21 k22 k23 k24 k25 k26 k27 k28 k29 k30
    have o0 := hS.cell mO (i := 0) rfl
    have o1 := hS.cell mO (i := 1) rfl
    have o2 := hS.cell mO (i := 2) rfl
    have o3 := hS.cell mO (i := 3) rfl
    have o4 := hS.cell mO (i := 4) rfl
    have fO := hS.free _ mO
    dsimp only at o0 o1 o2 o3 o4 fO
    obtain ⟨e0, e1, e2, e3, e4⟩ := own5c o0 o1 o2 o3 o4
    have bE := hS.below
    go_wp2_with fail
    refine bodyPost_ret (v := .agg #[.int .i64 0, .slice none 0 0, .int .i64 0, .int .i64 0, .int .i64 0]) (by simp [results, Try.results27, go_sem, e0, e1, e2, e3, e4]) rfl ⟨_, rfl, ?_, ?_⟩
    · rw [hT.out.1, hT.out.2]
      exact ⟨none, 0, fun _ => ⟨⟨none, 0, 0, 0⟩, ⟨none, 0, 0, 0⟩⟩, rfl, fun h => by omega, fun i hi => by omega⟩
    · exact setAll_below (by omega) [.int .i64 0, .slice none 0 0, .int .i64 0, .int .i64 0, .int .i64 0] 0 _ bE

set_option maxRecDepth 10000 in
set_option maxHeartbeats 8000000 in
theorem runNewS_3 (a : Option Addr) (b off m cap : Nat) (P : Nat → Proc) (S : Nat → Spot) (proc arg : Int) (w : World) (hm : m ≤ 1048576) (hn : ∀ i, i < m → (P i).n ≤ 1048576) (hP : ProcsAt a b off m P S w) (g : prgOk P m = true) (h1 : ¬ proc < 0) (h2 : (m : Int) ≤ proc) :
    Calls Try.prog 27 #[.agg #[.slice a m cap], .int .i64 proc, .int .i64 arg] w fun e w' => ∃ v, e = .returned v ∧ RunIs w.heap.size (newSt P m proc arg) 0 0 0 (newQ P m proc arg) (fun _ => EnterF proc arg) v w' ∧ Below w.heap.size w w' := by
  have H0 : HeldL w [(w.heap.size + 1, [Value.int .i64 0, .slice none 0 0, .int .i64 0, .int .i64 0, .int .i64 0]), (w.heap.size, [Value.slice a m cap])] ((w.alloc (.cells #[.slice a m cap] 29)).alloc (.cells #[.int .i64 0, .slice none 0 0, .int .i64 0, .int .i64 0, .int .i64 0] 47)) := by
    have e1 : w.heap.size + 1 = (w.alloc (.cells #[.slice a m cap] 29)).heap.size := by simp
    rw [e1]
    exact HeldL.newL (vs := [Value.int .i64 0, .slice none 0 0, .int .i64 0, .int .i64 0, .int .i64 0]) (HeldL.newL (vs := [Value.slice a m cap]) (HeldL.nil w))
  obtain ⟨Lb, hLb⟩ : ∃ L, L = [(w.heap.size + 1, [Value.int .i64 0, .slice none 0 0, .int .i64 0, .int .i64 0, .int .i64 0]), (w.heap.size, [Value.slice a m cap])] := ⟨_, rfl⟩
  have mO : (w.heap.size + 1, [Value.int .i64 0, .slice none 0 0, .int .i64 0, .int .i64 0, .int .i64 0]) ∈ Lb := by rw [hLb]; simp
  have mP : (w.heap.size, [Value.slice a m cap]) ∈ Lb := by rw [hLb]; simp
  have hLS : Hid (Lb = [(w.heap.size + 1, [Value.int .i64 0, .slice none 0 0, .int .i64 0, .int .i64 0, .int .i64 0]), (w.heap.size, [Value.slice a m cap])]) := hLb
  rw [← hLb] at H0
  clear hLb
  have hT : Hid (newSt P m proc arg = 0 ∧ newQ P m proc arg = 0) := new_no (by simp [newB, placeQ]; omega)
  have hg : Hid (prgOk P m = true) := g
  have hd1 : decide (proc < 0) = false := decide_eq_false h1
  clear g
  go_enter Try.func27, Try.ntmps27
  go_wp2_with fail
  have hS0 := H0.drew
  clear H0
  refine region_inv3 [(0, 7), (1, 8), (2, 9), (3, 10), (4, 11), (5, 12), (6, 13), (7, 14), (8, 15), (9, 16), (10, 17), (11, 18), (12, 19), (13, 20), (14, 21), (15, 22), (16, 23), (17, 24), (18, 25), (19, 26), (20, 27), (21, 28), (22, 29), (23, 30), (24, 31), (25, 32), (26, 33), (27, 34), (28, 35), (29, 36), (30, 37)]
    (fun j vx _ => match j with
      | 0 => Is (.agg #[.slice a m cap]) vx
      | 1 => Is (.bool true) vx
      | 2 => Is (.bool false) vx
      | 3 => Is (.bool false) vx
      | 4 => Is (.int .i64 proc) vx
      | 5 => Is (.bool false) vx
      | 6 => Is (.bool false) vx
      | 7 => Is (.bool false) vx
      | 8 => Is (.int .i64 proc) vx
      | 9 => Is (.pointer (some ⟨w.heap.size, 0, none⟩)) vx
      | 10 => Is (.slice a m cap) vx
      | 11 => Is (.int .i64 m) vx
      | 12 => Is (.bool true) vx
      | 13 => Is (.bool true) vx
      | 14 => Is (.bool true) vx
      | 15 => Is (undef) vx
      | 16 => Is (undef) vx
      | 17 => Is (undef) vx
      | 18 => Is (undef) vx
      | 19 => Is (undef) vx
      | 20 => Is (undef) vx
      | 21 => Is (undef) vx
      | 22 => Is (undef) vx
      | 23 => Is (undef) vx
      | 24 => Is (undef) vx
      | 25 => Is (undef) vx
      | 26 => Is (undef) vx
      | 27 => Is (undef) vx
      | 28 => Is (undef) vx
      | 29 => Is (undef) vx
      | 30 => Is (.bool true) vx
      | _ => True)
    (fun _ W => HeldL w Lb W) TT
    (by kernel_rfl) (by kernel_rfl) (by kernel_rfl) (by kernel_rfl) (by kernel_rfl) rfl hS0 (fun i j v W W' _ h _ => h) ?_ ?_
  · intro i L vals W hi' hφ hS hL hd
    have hi2 : i < 31 := hi'
    clear hi'
    rcases (show i = 0 ∨ i = 1 ∨ i = 2 ∨ i = 3 ∨ i = 4 ∨ i = 5 ∨ i = 6 ∨ i = 7 ∨ i = 8 ∨ i = 9 ∨ i = 10 ∨ i = 11 ∨ i = 12 ∨ i = 13 ∨ i = 14 ∨ i = 15 ∨ i = 16 ∨ i = 17 ∨ i = 18 ∨ i = 19 ∨ i = 20 ∨ i = 21 ∨ i = 22 ∨ i = 23 ∨ i = 24 ∨ i = 25 ∨ i = 26 ∨ i = 27 ∨ i = 28 ∨ i = 29 ∨ i = 30 by omega) with rfl | rfl | rfl | rfl | rfl | rfl | rfl | rfl | rfl | rfl | rfl | rfl | rfl | rfl | rfl | rfl | rfl | rfl | rfl | rfl | rfl | rfl | rfl | rfl | rfl | rfl | rfl | rfl | rfl | rfl | rfl
    · have c0 := HeldL.cell hS mP (i := 0) rfl
      dsimp only at c0
      refine wpAt_of rfl rfl ?_
      simp only [frOf, Act.put]
      go_wp2_with fail
      first | exact ⟨trivial, rfl, trivial, hS⟩ | exact ⟨rfl, trivial, hS⟩
    · have k0 : vals 0 = .agg #[.slice a m cap] := hφ 0 (hd 0 (by decide))
      refine wpAt_of rfl rfl ?_
      simp only [frOf, Act.put]
      go_wp2_with fail
      refine (prgOkS_is _ _ _ _ _ _ _ (true) _ hm hn (hP.next (HeldL.below hS)) hg.out).mono ?_
      rintro e W' ⟨rfl, hb⟩
      go_wp2_with fail
      first | exact ⟨trivial, rfl, trivial, HeldL.next hb hS⟩ | exact ⟨rfl, trivial, HeldL.next hb hS⟩
    · have k1 : vals 1 = .bool true := hφ 1 (hd 1 (by decide))
      refine wpAt_of rfl rfl ?_
      simp only [frOf, Act.put]
      go_wp2_with fail
      first | exact ⟨trivial, rfl, trivial, hS⟩ | exact ⟨rfl, trivial, hS⟩
    · have k2 : vals 2 = .bool false := hφ 2 (hd 2 (by decide))
      refine wpAt_of rfl rfl ?_
      simp only [frOf, Act.put]
      go_wp2_with fail
      first | exact ⟨trivial, rfl, trivial, hS⟩ | exact ⟨rfl, trivial, hS⟩
    · have k3 : vals 3 = .bool false := hφ 3 (hd 3 (by decide))
      simp only [wpAt, List.getElem?_toArray, List.getElem?_cons_succ, List.getElem?_cons_zero, slotOf, frOf, Act.put]
      go_wp2_with fail
      first | exact ⟨trivial, rfl, trivial, hS⟩ | exact ⟨rfl, trivial, hS⟩
    · have k3 : vals 3 = .bool false := hφ 3 (hd 3 (by decide))
      have k4 : vals 4 = .int .i64 proc := hφ 4 (hd 4 (by decide))
      simp only [wpAt, List.getElem?_toArray, List.getElem?_cons_succ, List.getElem?_cons_zero, slotOf, frOf, Act.put]
      go_wp2_with fail
      first | exact ⟨trivial, rfl, trivial, hS⟩ | exact ⟨rfl, trivial, hS⟩
    · have k3 : vals 3 = .bool false := hφ 3 (hd 3 (by decide))
      have k5 : vals 5 = .bool false := hφ 5 (hd 5 (by decide))
      refine wpAt_of rfl rfl ?_
      simp only [frOf, Act.put]
      go_wp2_with fail
      first | exact ⟨trivial, rfl, trivial, hS⟩ | exact ⟨rfl, trivial, hS⟩
    · have k6 : vals 6 = .bool false := hφ 6 (hd 6 (by decide))
      refine wpAt_of rfl rfl ?_
      simp only [frOf, Act.put]
      go_wp2_with fail
      first | exact ⟨trivial, rfl, trivial, hS⟩ | exact ⟨rfl, trivial, hS⟩
    · have k7 : vals 7 = .bool false := hφ 7 (hd 7 (by decide))
      simp only [wpAt, List.getElem?_toArray, List.getElem?_cons_succ, List.getElem?_cons_zero, slotOf, frOf, Act.put]
      go_wp2_with fail
      first | exact ⟨trivial, rfl, trivial, hS⟩ | exact ⟨rfl, trivial, hS⟩
    · have k7 : vals 7 = .bool false := hφ 7 (hd 7 (by decide))
      simp only [wpAt, List.getElem?_toArray, List.getElem?_cons_succ, List.getElem?_cons_zero, slotOf, frOf, Act.put]
      go_wp2_with fail
      first | exact ⟨trivial, rfl, trivial, hS⟩ | exact ⟨rfl, trivial, hS⟩
    · have k7 : vals 7 = .bool false := hφ 7 (hd 7 (by decide))
      have k9 : vals 9 = .pointer (some ⟨w.heap.size, 0, none⟩) := hφ 9 (hd 9 (by decide))
      have c0 := HeldL.cell hS mP (i := 0) rfl
      dsimp only at c0
      simp only [wpAt, List.getElem?_toArray, List.getElem?_cons_succ, List.getElem?_cons_zero, slotOf, frOf, Act.put]
      go_wp2_with fail
      first | exact ⟨trivial, rfl, trivial, hS⟩ | exact ⟨rfl, trivial, hS⟩
    · have k7 : vals 7 = .bool false := hφ 7 (hd 7 (by decide))
      have k10 : vals 10 = .slice a m cap := hφ 10 (hd 10 (by decide))
      simp only [wpAt, List.getElem?_toArray, List.getElem?_cons_succ, List.getElem?_cons_zero, slotOf, frOf, Act.put]
      go_wp2_with fail
      first | exact ⟨trivial, rfl, trivial, hS⟩ | exact ⟨rfl, trivial, hS⟩
    · have k7 : vals 7 = .bool false := hφ 7 (hd 7 (by decide))
      have k8 : vals 8 = .int .i64 proc := hφ 8 (hd 8 (by decide))
      have k11 : vals 11 = .int .i64 m := hφ 11 (hd 11 (by decide))
      simp only [wpAt, List.getElem?_toArray, List.getElem?_cons_succ, List.getElem?_cons_zero, slotOf, frOf, Act.put]
      go_wp2_with fail
      first | exact ⟨trivial, rfl, trivial, hS⟩ | exact ⟨rfl, trivial, hS⟩
    · have k7 : vals 7 = .bool false := hφ 7 (hd 7 (by decide))
      have k12 : vals 12 = .bool true := hφ 12 (hd 12 (by decide))
      refine wpAt_of rfl rfl ?_
      simp only [frOf, Act.put]
      go_wp2_with fail
      first | exact ⟨trivial, rfl, trivial, hS⟩ | exact ⟨rfl, trivial, hS⟩
    · have k13 : vals 13 = .bool true := hφ 13 (hd 13 (by decide))
      refine wpAt_of rfl rfl ?_
      simp only [frOf, Act.put]
      go_wp2_with fail
      first | exact ⟨trivial, rfl, trivial, hS⟩ | exact ⟨rfl, trivial, hS⟩
    · have k14 : vals 14 = .bool true := hφ 14 (hd 14 (by decide))
      simp only [wpAt, List.getElem?_toArray, List.getElem?_cons_succ, List.getElem?_cons_zero, slotOf, frOf, Act.put]
      go_wp2_with fail
      first | exact ⟨trivial, rfl, trivial, hS⟩ | exact ⟨rfl, trivial, hS⟩
    · have k14 : vals 14 = .bool true := hφ 14 (hd 14 (by decide))
      simp only [wpAt, List.getElem?_toArray, List.getElem?_cons_succ, List.getElem?_cons_zero, slotOf, frOf, Act.put]
      go_wp2_with fail
      first | exact ⟨trivial, rfl, trivial, hS⟩ | exact ⟨rfl, trivial, hS⟩
    · have k14 : vals 14 = .bool true := hφ 14 (hd 14 (by decide))
      have k16 : vals 16 = undef := hφ 16 (hd 16 (by decide))
      have c0 := HeldL.cell hS mP (i := 0) rfl
      dsimp only at c0
      simp only [wpAt, List.getElem?_toArray, List.getElem?_cons_succ, List.getElem?_cons_zero, slotOf, frOf, Act.put]
      go_wp2_with fail
      first | exact ⟨trivial, rfl, trivial, hS⟩ | exact ⟨rfl, trivial, hS⟩
    · have k14 : vals 14 = .bool true := hφ 14 (hd 14 (by decide))
      simp only [wpAt, List.getElem?_toArray, List.getElem?_cons_succ, List.getElem?_cons_zero, slotOf, frOf, Act.put]
      go_wp2_with fail
      first | exact ⟨trivial, rfl, trivial, hS⟩ | exact ⟨rfl, trivial, hS⟩
    · have k14 : vals 14 = .bool true := hφ 14 (hd 14 (by decide))
      have k17 : vals 17 = undef := hφ 17 (hd 17 (by decide))
      have k18 : vals 18 = undef := hφ 18 (hd 18 (by decide))
      simp only [wpAt, List.getElem?_toArray, List.getElem?_cons_succ, List.getElem?_cons_zero, slotOf, frOf, Act.put]
      go_wp2_with fail
      first | exact ⟨trivial, rfl, trivial, hS⟩ | exact ⟨rfl, trivial, hS⟩
    · have k14 : vals 14 = .bool true := hφ 14 (hd 14 (by decide))
      have k19 : vals 19 = undef := hφ 19 (hd 19 (by decide))
      simp only [wpAt, List.getElem?_toArray, List.getElem?_cons_succ, List.getElem?_cons_zero, slotOf, frOf, Act.put]
      go_wp2_with fail
      first | exact ⟨trivial, rfl, trivial, hS⟩ | exact ⟨rfl, trivial, hS⟩
    · have k14 : vals 14 = .bool true := hφ 14 (hd 14 (by decide))
      have k20 : vals 20 = undef := hφ 20 (hd 20 (by decide))
      simp only [wpAt, List.getElem?_toArray, List.getElem?_cons_succ, List.getElem?_cons_zero, slotOf, frOf, Act.put]
      go_wp2_with fail
      first | exact ⟨trivial, rfl, trivial, hS⟩ | exact ⟨rfl, trivial, hS⟩
    · have k14 : vals 14 = .bool true := hφ 14 (hd 14 (by decide))
      simp only [wpAt, List.getElem?_toArray, List.getElem?_cons_succ, List.getElem?_cons_zero, slotOf, frOf, Act.put]
      go_wp2_with fail
      first | exact ⟨trivial, rfl, trivial, hS⟩ | exact ⟨rfl, trivial, hS⟩
    · have k14 : vals 14 = .bool true := hφ 14 (hd 14 (by decide))
      have k22 : vals 22 = undef := hφ 22 (hd 22 (by decide))
      have c0 := HeldL.cell hS mP (i := 0) rfl
      dsimp only at c0
      simp only [wpAt, List.getElem?_toArray, List.getElem?_cons_succ, List.getElem?_cons_zero, slotOf, frOf, Act.put]
      go_wp2_with fail
      first | exact ⟨trivial, rfl, trivial, hS⟩ | exact ⟨rfl, trivial, hS⟩
    · have k14 : vals 14 = .bool true := hφ 14 (hd 14 (by decide))
      simp only [wpAt, List.getElem?_toArray, List.getElem?_cons_succ, List.getElem?_cons_zero, slotOf, frOf, Act.put]
      go_wp2_with fail
      first | exact ⟨trivial, rfl, trivial, hS⟩ | exact ⟨rfl, trivial, hS⟩
    · have k14 : vals 14 = .bool true := hφ 14 (hd 14 (by decide))
      have k23 : vals 23 = undef := hφ 23 (hd 23 (by decide))
      have k24 : vals 24 = undef := hφ 24 (hd 24 (by decide))
      simp only [wpAt, List.getElem?_toArray, List.getElem?_cons_succ, List.getElem?_cons_zero, slotOf, frOf, Act.put]
      go_wp2_with fail
      first | exact ⟨trivial, rfl, trivial, hS⟩ | exact ⟨rfl, trivial, hS⟩
    · have k14 : vals 14 = .bool true := hφ 14 (hd 14 (by decide))
      have k25 : vals 25 = undef := hφ 25 (hd 25 (by decide))
      simp only [wpAt, List.getElem?_toArray, List.getElem?_cons_succ, List.getElem?_cons_zero, slotOf, frOf, Act.put]
      go_wp2_with fail
      first | exact ⟨trivial, rfl, trivial, hS⟩ | exact ⟨rfl, trivial, hS⟩
    · have k14 : vals 14 = .bool true := hφ 14 (hd 14 (by decide))
      have k26 : vals 26 = undef := hφ 26 (hd 26 (by decide))
      simp only [wpAt, List.getElem?_toArray, List.getElem?_cons_succ, List.getElem?_cons_zero, slotOf, frOf, Act.put]
      go_wp2_with fail
      first | exact ⟨trivial, rfl, trivial, hS⟩ | exact ⟨rfl, trivial, hS⟩
    · have k14 : vals 14 = .bool true := hφ 14 (hd 14 (by decide))
      have k15 : vals 15 = undef := hφ 15 (hd 15 (by decide))
      have k21 : vals 21 = undef := hφ 21 (hd 21 (by decide))
      have k27 : vals 27 = undef := hφ 27 (hd 27 (by decide))
      simp only [wpAt, List.getElem?_toArray, List.getElem?_cons_succ, List.getElem?_cons_zero, slotOf, frOf, Act.put]
      go_wp2_with fail
      first | exact ⟨trivial, rfl, trivial, hS⟩ | exact ⟨rfl, trivial, hS⟩
    · have k14 : vals 14 = .bool true := hφ 14 (hd 14 (by decide))
      have k28 : vals 28 = undef := hφ 28 (hd 28 (by decide))
      simp only [wpAt, List.getElem?_toArray, List.getElem?_cons_succ, List.getElem?_cons_zero, slotOf, frOf, Act.put]
      go_wp2_with fail
      first | exact ⟨trivial, rfl, trivial, hS⟩ | exact ⟨rfl, trivial, hS⟩
    · have k14 : vals 14 = .bool true := hφ 14 (hd 14 (by decide))
      have k29 : vals 29 = undef := hφ 29 (hd 29 (by decide))
      refine wpAt_of rfl rfl ?_
      simp only [frOf, Act.put]
      go_wp2_with fail
      first | exact ⟨trivial, rfl, trivial, hS⟩ | exact ⟨rfl, trivial, hS⟩
  · intro L vals W hall hφ hS
    have k0 : vals 0 = .agg #[.slice a m cap] := hφ 0 (by decide)
    have k1 : vals 1 = .bool true := hφ 1 (by decide)
    have k2 : vals 2 = .bool false := hφ 2 (by decide)
    have k3 : vals 3 = .bool false := hφ 3 (by decide)
    have k4 : vals 4 = .int .i64 proc := hφ 4 (by decide)
    have k5 : vals 5 = .bool false := hφ 5 (by decide)
    have k6 : vals 6 = .bool false := hφ 6 (by decide)
    have k7 : vals 7 = .bool false := hφ 7 (by decide)
    have k8 : vals 8 = .int .i64 proc := hφ 8 (by decide)
    have k9 : vals 9 = .pointer (some ⟨w.heap.size, 0, none⟩) := hφ 9 (by decide)
    have k10 : vals 10 = .slice a m cap := hφ 10 (by decide)
    have k11 : vals 11 = .int .i64 m := hφ 11 (by decide)
    have k12 : vals 12 = .bool true := hφ 12 (by decide)
    have k13 : vals 13 = .bool true := hφ 13 (by decide)
    have k14 : vals 14 = .bool true := hφ 14 (by decide)
    have k15 : vals 15 = undef := hφ 15 (by decide)
    have k16 : vals 16 = undef := hφ 16 (by decide)
    have k17 : vals 17 = undef := hφ 17 (by decide)
    have k18 : vals 18 = undef := hφ 18 (by decide)
    have k19 : vals 19 = undef := hφ 19 (by decide)
    have k20 : vals 20 = undef := hφ 20 (by decide)
    have k21 : vals 21 = undef := hφ 21 (by decide)
    have k22 : vals 22 = undef := hφ 22 (by decide)
    have k23 : vals 23 = undef := hφ 23 (by decide)
    have k24 : vals 24 = undef := hφ 24 (by decide)
    have k25 : vals 25 = undef := hφ 25 (by decide)
    have k26 : vals 26 = undef := hφ 26 (by decide)
    have k27 : vals 27 = undef := hφ 27 (by decide)
    have k28 : vals 28 = undef := hφ 28 (by decide)
    have k29 : vals 29 = undef := hφ 29 (by decide)
    have k30 : vals 30 = .bool true := hφ 30 (by decide)
    simp only [frOf, Act.put, List.setIfInBounds_toArray, List.set_cons_succ, List.set_cons_zero, k0, k1, k2, k3, k4, k5, k6, k7, k8, k9, k10, k11, k12, k13, k14, k15, k16, k17, k18, k19, k20, k21, k22, k23, k24, k25, k26, k27, k28, k29, k30]
    clear k0 k1 k2 k3 k4 k5 k6 k7 k8 k9 k10 k11 k12 k13 k14 k15 k16 k17 k18 k19 k20 k21 k22 k23 k24 k25 k26 k27 k28 k29 k30
    have o0 := hS.cell mO (i := 0) rfl
    have o1 := hS.cell mO (i := 1) rfl
    have o2 := hS.cell mO (i := 2) rfl
    have o3 := hS.cell mO (i := 3) rfl
    have o4 := hS.cell mO (i := 4) rfl
    have fO := hS.free _ mO
    dsimp only at o0 o1 o2 o3 o4 fO
    obtain ⟨e0, e1, e2, e3, e4⟩ := own5c o0 o1 o2 o3 o4
    have bE := hS.below
    go_wp2_with fail
    refine bodyPost_ret (v := .agg #[.int .i64 0, .slice none 0 0, .int .i64 0, .int .i64 0, .int .i64 0]) (by simp [results, Try.results27, go_sem, e0, e1, e2, e3, e4]) rfl ⟨_, rfl, ?_, ?_⟩
    · rw [hT.out.1, hT.out.2]
      exact ⟨none, 0, fun _ => ⟨⟨none, 0, 0, 0⟩, ⟨none, 0, 0, 0⟩⟩, rfl, fun h => by omega, fun i hi => by omega⟩
    · exact setAll_below (by omega) [.int .i64 0, .slice none 0 0, .int .i64 0, .int .i64 0, .int .i64 0] 0 _ bE

set_option maxRecDepth 10000 in
set_option maxHeartbeats 8000000 in
theorem runNewS_4 (b off m cap : Nat) (P : Nat → Proc) (S : Nat → Spot) (p : Nat) (arg lo hi : Int) (w : World) (hm : m ≤ 1048576) (hn : ∀ i, i < m → (P i).n ≤ 1048576) (hP : ProcsAt (some ⟨b, off, none⟩) b off m P S w) (hp : p < m) (g : prgOk P m = true) (hlo0 : (P p).lo = lo) (hhi0 : (P p).hi = hi) (hr0 : inB arg lo hi = false) :
    Calls Try.prog 27 #[.agg #[.slice (some ⟨b, off, none⟩) m cap], .int .i64 p, .int .i64 arg] w fun e w' => ∃ v, e = .returned v ∧ RunIs w.heap.size (newSt P m p arg) 0 0 0 (newQ P m p arg) (fun _ => EnterF p arg) v w' ∧ Below w.heap.size w w' := by
  have H0 : HeldL w [(w.heap.size + 1, [Value.int .i64 0, .slice none 0 0, .int .i64 0, .int .i64 0, .int .i64 0]), (w.heap.size, [Value.slice (some ⟨b, off, none⟩) m cap])] ((w.alloc (.cells #[.slice (some ⟨b, off, none⟩) m cap] 29)).alloc (.cells #[.int .i64 0, .slice none 0 0, .int .i64 0, .int .i64 0, .int .i64 0] 47)) := by
    have e1 : w.heap.size + 1 = (w.alloc (.cells #[.slice (some ⟨b, off, none⟩) m cap] 29)).heap.size := by simp
    rw [e1]
    exact HeldL.newL (vs := [Value.int .i64 0, .slice none 0 0, .int .i64 0, .int .i64 0, .int .i64 0]) (HeldL.newL (vs := [Value.slice (some ⟨b, off, none⟩) m cap]) (HeldL.nil w))
  obtain ⟨Lb, hLb⟩ : ∃ L, L = [(w.heap.size + 1, [Value.int .i64 0, .slice none 0 0, .int .i64 0, .int .i64 0, .int .i64 0]), (w.heap.size, [Value.slice (some ⟨b, off, none⟩) m cap])] := ⟨_, rfl⟩
  have mO : (w.heap.size + 1, [Value.int .i64 0, .slice none 0 0, .int .i64 0, .int .i64 0, .int .i64 0]) ∈ Lb := by rw [hLb]; simp
  have mP : (w.heap.size, [Value.slice (some ⟨b, off, none⟩) m cap]) ∈ Lb := by rw [hLb]; simp
  have hLS : Hid (Lb = [(w.heap.size + 1, [Value.int .i64 0, .slice none 0 0, .int .i64 0, .int .i64 0, .int .i64 0]), (w.heap.size, [Value.slice (some ⟨b, off, none⟩) m cap])]) := hLb
  rw [← hLb] at H0
  clear hLb
  have t1 : ((p : Int)).toNat = p := by omega
  have t2 : (0 : Int) ≤ (p : Int) := by omega
  have t3 : (p : Int) < (m : Int) := by omega
  have hd2 : decide (m ≤ p) = false := decide_eq_false (by omega)
  have hg : Hid (prgOk P m = true) := g
  have hlo : Hid ((P p).lo = lo) := hlo0
  have hhi : Hid ((P p).hi = hi) := hhi0
  have hr : Hid (inB arg lo hi = false) := hr0
  have hnew : newB P m p arg = false := by simp only [newB, placeQ, t1, hlo0, hhi0, hr0, g]; simp [t2, t3]
  have hT : Hid (newSt P m p arg = 0 ∧ newQ P m p arg = 0) := new_no hnew
  clear g hlo0 hhi0 hr0 hnew
  go_enter Try.func27, Try.ntmps27
  go_wp2_with fail
  have hS0 := H0.drew
  clear H0
  refine region_inv3 [(0, 7), (1, 8), (2, 9), (3, 10), (4, 11), (5, 12), (6, 13), (7, 14), (8, 15), (9, 16), (10, 17), (11, 18), (12, 19), (13, 20), (14, 21), (15, 22), (16, 23), (17, 24), (18, 25), (19, 26), (20, 27), (21, 28), (22, 29), (23, 30), (24, 31), (25, 32), (26, 33), (27, 34), (28, 35), (29, 36), (30, 37)]
    (fun j vx _ => match j with
      | 0 => Is (.agg #[.slice (some ⟨b, off, none⟩) m cap]) vx
      | 1 => Is (.bool true) vx
      | 2 => Is (.bool false) vx
      | 3 => Is (.bool false) vx
      | 4 => Is (.int .i64 p) vx
      | 5 => Is (.bool false) vx
      | 6 => Is (.bool false) vx
      | 7 => Is (.bool false) vx
      | 8 => Is (.int .i64 p) vx
      | 9 => Is (.pointer (some ⟨w.heap.size, 0, none⟩)) vx
      | 10 => Is (.slice (some ⟨b, off, none⟩) m cap) vx
      | 11 => Is (.int .i64 m) vx
      | 12 => Is (.bool false) vx
      | 13 => Is (.bool false) vx
      | 14 => Is (.bool false) vx
      | 15 => Is (.int .i64 arg) vx
      | 16 => Is (.pointer (some ⟨w.heap.size, 0, none⟩)) vx
      | 17 => Is (.slice (some ⟨b, off, none⟩) m cap) vx
      | 18 => Is (.int .i64 p) vx
      | 19 => Is (.pointer (some ⟨b, off + p * 3, none⟩)) vx
      | 20 => Is (.pointer (some ⟨b, off + p * 3, none⟩)) vx
      | 21 => Is (.int .i64 lo) vx
      | 22 => Is (.pointer (some ⟨w.heap.size, 0, none⟩)) vx
      | 23 => Is (.slice (some ⟨b, off, none⟩) m cap) vx
      | 24 => Is (.int .i64 p) vx
      | 25 => Is (.pointer (some ⟨b, off + p * 3, none⟩)) vx
      | 26 => Is (.pointer (some ⟨b, off + p * 3 + 1, none⟩)) vx
      | 27 => Is (.int .i64 hi) vx
      | 28 => Is (.bool false) vx
      | 29 => Is (.bool true) vx
      | 30 => Is (.bool true) vx
      | _ => True)
    (fun _ W => HeldL w Lb W) TT
    (by kernel_rfl) (by kernel_rfl) (by kernel_rfl) (by kernel_rfl) (by kernel_rfl) rfl hS0 (fun i j v W W' _ h _ => h) ?_ ?_
  · intro i L vals W hi' hφ hS hL hd
    have hi2 : i < 31 := hi'
    clear hi'
    rcases (show i = 0 ∨ i = 1 ∨ i = 2 ∨ i = 3 ∨ i = 4 ∨ i = 5 ∨ i = 6 ∨ i = 7 ∨ i = 8 ∨ i = 9 ∨ i = 10 ∨ i = 11 ∨ i = 12 ∨ i = 13 ∨ i = 14 ∨ i = 15 ∨ i = 16 ∨ i = 17 ∨ i = 18 ∨ i = 19 ∨ i = 20 ∨ i = 21 ∨ i = 22 ∨ i = 23 ∨ i = 24 ∨ i = 25 ∨ i = 26 ∨ i = 27 ∨ i = 28 ∨ i = 29 ∨ i = 30 by omega) with rfl | rfl | rfl | rfl | rfl | rfl | rfl | rfl | rfl | rfl | rfl | rfl | rfl | rfl | rfl | rfl | rfl | rfl | rfl | rfl | rfl | rfl | rfl | rfl | rfl | rfl | rfl | rfl | rfl | rfl | rfl
    · have c0 := HeldL.cell hS mP (i := 0) rfl
      dsimp only at c0
      refine wpAt_of rfl rfl ?_
      simp only [frOf, Act.put]
      go_wp2_with fail
      first | exact ⟨trivial, rfl, trivial, hS⟩ | exact ⟨rfl, trivial, hS⟩
    · have k0 : vals 0 = .agg #[.slice (some ⟨b, off, none⟩) m cap] := hφ 0 (hd 0 (by decide))
      refine wpAt_of rfl rfl ?_
      simp only [frOf, Act.put]
      go_wp2_with fail
      refine (prgOkS_is _ _ _ _ _ _ _ (true) _ hm hn (hP.next (HeldL.below hS)) hg.out).mono ?_
      rintro e W' ⟨rfl, hb⟩
      go_wp2_with fail
      first | exact ⟨trivial, rfl, trivial, HeldL.next hb hS⟩ | exact ⟨rfl, trivial, HeldL.next hb hS⟩
    · have k1 : vals 1 = .bool true := hφ 1 (hd 1 (by decide))
      refine wpAt_of rfl rfl ?_
      simp only [frOf, Act.put]
      go_wp2_with fail
      first | exact ⟨trivial, rfl, trivial, hS⟩ | exact ⟨rfl, trivial, hS⟩
    · have k2 : vals 2 = .bool false := hφ 2 (hd 2 (by decide))
      refine wpAt_of rfl rfl ?_
      simp only [frOf, Act.put]
      go_wp2_with fail
      first | exact ⟨trivial, rfl, trivial, hS⟩ | exact ⟨rfl, trivial, hS⟩
    · have k3 : vals 3 = .bool false := hφ 3 (hd 3 (by decide))
      simp only [wpAt, List.getElem?_toArray, List.getElem?_cons_succ, List.getElem?_cons_zero, slotOf, frOf, Act.put]
      go_wp2_with fail
      first | exact ⟨trivial, rfl, trivial, hS⟩ | exact ⟨rfl, trivial, hS⟩
    · have k3 : vals 3 = .bool false := hφ 3 (hd 3 (by decide))
      have k4 : vals 4 = .int .i64 p := hφ 4 (hd 4 (by decide))
      simp only [wpAt, List.getElem?_toArray, List.getElem?_cons_succ, List.getElem?_cons_zero, slotOf, frOf, Act.put]
      go_wp2_with fail
      first | exact ⟨trivial, rfl, trivial, hS⟩ | exact ⟨rfl, trivial, hS⟩
    · have k3 : vals 3 = .bool false := hφ 3 (hd 3 (by decide))
      have k5 : vals 5 = .bool false := hφ 5 (hd 5 (by decide))
      refine wpAt_of rfl rfl ?_
      simp only [frOf, Act.put]
      go_wp2_with fail
      first | exact ⟨trivial, rfl, trivial, hS⟩ | exact ⟨rfl, trivial, hS⟩
    · have k6 : vals 6 = .bool false := hφ 6 (hd 6 (by decide))
      refine wpAt_of rfl rfl ?_
      simp only [frOf, Act.put]
      go_wp2_with fail
      first | exact ⟨trivial, rfl, trivial, hS⟩ | exact ⟨rfl, trivial, hS⟩
    · have k7 : vals 7 = .bool false := hφ 7 (hd 7 (by decide))
      simp only [wpAt, List.getElem?_toArray, List.getElem?_cons_succ, List.getElem?_cons_zero, slotOf, frOf, Act.put]
      go_wp2_with fail
      first | exact ⟨trivial, rfl, trivial, hS⟩ | exact ⟨rfl, trivial, hS⟩
    · have k7 : vals 7 = .bool false := hφ 7 (hd 7 (by decide))
      simp only [wpAt, List.getElem?_toArray, List.getElem?_cons_succ, List.getElem?_cons_zero, slotOf, frOf, Act.put]
      go_wp2_with fail
      first | exact ⟨trivial, rfl, trivial, hS⟩ | exact ⟨rfl, trivial, hS⟩
    · have k7 : vals 7 = .bool false := hφ 7 (hd 7 (by decide))
      have k9 : vals 9 = .pointer (some ⟨w.heap.size, 0, none⟩) := hφ 9 (hd 9 (by decide))
      have c0 := HeldL.cell hS mP (i := 0) rfl
      dsimp only at c0
      simp only [wpAt, List.getElem?_toArray, List.getElem?_cons_succ, List.getElem?_cons_zero, slotOf, frOf, Act.put]
      go_wp2_with fail
      first | exact ⟨trivial, rfl, trivial, hS⟩ | exact ⟨rfl, trivial, hS⟩
    · have k7 : vals 7 = .bool false := hφ 7 (hd 7 (by decide))
      have k10 : vals 10 = .slice (some ⟨b, off, none⟩) m cap := hφ 10 (hd 10 (by decide))
      simp only [wpAt, List.getElem?_toArray, List.getElem?_cons_succ, List.getElem?_cons_zero, slotOf, frOf, Act.put]
      go_wp2_with fail
      first | exact ⟨trivial, rfl, trivial, hS⟩ | exact ⟨rfl, trivial, hS⟩
    · have k7 : vals 7 = .bool false := hφ 7 (hd 7 (by decide))
      have k8 : vals 8 = .int .i64 p := hφ 8 (hd 8 (by decide))
      have k11 : vals 11 = .int .i64 m := hφ 11 (hd 11 (by decide))
      simp only [wpAt, List.getElem?_toArray, List.getElem?_cons_succ, List.getElem?_cons_zero, slotOf, frOf, Act.put]
      go_wp2_with fail
      first | exact ⟨trivial, rfl, trivial, hS⟩ | exact ⟨rfl, trivial, hS⟩
    · have k7 : vals 7 = .bool false := hφ 7 (hd 7 (by decide))
      have k12 : vals 12 = .bool false := hφ 12 (hd 12 (by decide))
      refine wpAt_of rfl rfl ?_
      simp only [frOf, Act.put]
      go_wp2_with fail
      first | exact ⟨trivial, rfl, trivial, hS⟩ | exact ⟨rfl, trivial, hS⟩
    · have k13 : vals 13 = .bool false := hφ 13 (hd 13 (by decide))
      refine wpAt_of rfl rfl ?_
      simp only [frOf, Act.put]
      go_wp2_with fail
      first | exact ⟨trivial, rfl, trivial, hS⟩ | exact ⟨rfl, trivial, hS⟩
    · have k14 : vals 14 = .bool false := hφ 14 (hd 14 (by decide))
      simp only [wpAt, List.getElem?_toArray, List.getElem?_cons_succ, List.getElem?_cons_zero, slotOf, frOf, Act.put]
      go_wp2_with fail
      first | exact ⟨trivial, rfl, trivial, hS⟩ | exact ⟨rfl, trivial, hS⟩
    · have k14 : vals 14 = .bool false := hφ 14 (hd 14 (by decide))
      simp only [wpAt, List.getElem?_toArray, List.getElem?_cons_succ, List.getElem?_cons_zero, slotOf, frOf, Act.put]
      go_wp2_with fail
      first | exact ⟨trivial, rfl, trivial, hS⟩ | exact ⟨rfl, trivial, hS⟩
    · have k14 : vals 14 = .bool false := hφ 14 (hd 14 (by decide))
      have k16 : vals 16 = .pointer (some ⟨w.heap.size, 0, none⟩) := hφ 16 (hd 16 (by decide))
      have c0 := HeldL.cell hS mP (i := 0) rfl
      dsimp only at c0
      simp only [wpAt, List.getElem?_toArray, List.getElem?_cons_succ, List.getElem?_cons_zero, slotOf, frOf, Act.put]
      go_wp2_with fail
      first | exact ⟨trivial, rfl, trivial, hS⟩ | exact ⟨rfl, trivial, hS⟩
    · have k14 : vals 14 = .bool false := hφ 14 (hd 14 (by decide))
      simp only [wpAt, List.getElem?_toArray, List.getElem?_cons_succ, List.getElem?_cons_zero, slotOf, frOf, Act.put]
      go_wp2_with fail
      first | exact ⟨trivial, rfl, trivial, hS⟩ | exact ⟨rfl, trivial, hS⟩
    · have k14 : vals 14 = .bool false := hφ 14 (hd 14 (by decide))
      have k17 : vals 17 = .slice (some ⟨b, off, none⟩) m cap := hφ 17 (hd 17 (by decide))
      have k18 : vals 18 = .int .i64 p := hφ 18 (hd 18 (by decide))
      simp only [wpAt, List.getElem?_toArray, List.getElem?_cons_succ, List.getElem?_cons_zero, slotOf, frOf, Act.put]
      go_wp2_with fail
      first | exact ⟨trivial, rfl, trivial, hS⟩ | exact ⟨rfl, trivial, hS⟩
    · have k14 : vals 14 = .bool false := hφ 14 (hd 14 (by decide))
      have k19 : vals 19 = .pointer (some ⟨b, off + p * 3, none⟩) := hφ 19 (hd 19 (by decide))
      simp only [wpAt, List.getElem?_toArray, List.getElem?_cons_succ, List.getElem?_cons_zero, slotOf, frOf, Act.put]
      go_wp2_with fail
      first | exact ⟨trivial, rfl, trivial, hS⟩ | exact ⟨rfl, trivial, hS⟩
    · have k14 : vals 14 = .bool false := hφ 14 (hd 14 (by decide))
      have k20 : vals 20 = .pointer (some ⟨b, off + p * 3, none⟩) := hφ 20 (hd 20 (by decide))
      have d0 := (hP.next (HeldL.below hS)).lo p hp
      rw [hlo.out] at d0
      simp only [wpAt, List.getElem?_toArray, List.getElem?_cons_succ, List.getElem?_cons_zero, slotOf, frOf, Act.put]
      go_wp2_with fail
      first | exact ⟨trivial, rfl, trivial, hS⟩ | exact ⟨rfl, trivial, hS⟩
    · have k14 : vals 14 = .bool false := hφ 14 (hd 14 (by decide))
      simp only [wpAt, List.getElem?_toArray, List.getElem?_cons_succ, List.getElem?_cons_zero, slotOf, frOf, Act.put]
      go_wp2_with fail
      first | exact ⟨trivial, rfl, trivial, hS⟩ | exact ⟨rfl, trivial, hS⟩
    · have k14 : vals 14 = .bool false := hφ 14 (hd 14 (by decide))
      have k22 : vals 22 = .pointer (some ⟨w.heap.size, 0, none⟩) := hφ 22 (hd 22 (by decide))
      have c0 := HeldL.cell hS mP (i := 0) rfl
      dsimp only at c0
      simp only [wpAt, List.getElem?_toArray, List.getElem?_cons_succ, List.getElem?_cons_zero, slotOf, frOf, Act.put]
      go_wp2_with fail
      first | exact ⟨trivial, rfl, trivial, hS⟩ | exact ⟨rfl, trivial, hS⟩
    · have k14 : vals 14 = .bool false := hφ 14 (hd 14 (by decide))
      simp only [wpAt, List.getElem?_toArray, List.getElem?_cons_succ, List.getElem?_cons_zero, slotOf, frOf, Act.put]
      go_wp2_with fail
      first | exact ⟨trivial, rfl, trivial, hS⟩ | exact ⟨rfl, trivial, hS⟩
    · have k14 : vals 14 = .bool false := hφ 14 (hd 14 (by decide))
      have k23 : vals 23 = .slice (some ⟨b, off, none⟩) m cap := hφ 23 (hd 23 (by decide))
      have k24 : vals 24 = .int .i64 p := hφ 24 (hd 24 (by decide))
      simp only [wpAt, List.getElem?_toArray, List.getElem?_cons_succ, List.getElem?_cons_zero, slotOf, frOf, Act.put]
      go_wp2_with fail
      first | exact ⟨trivial, rfl, trivial, hS⟩ | exact ⟨rfl, trivial, hS⟩
    · have k14 : vals 14 = .bool false := hφ 14 (hd 14 (by decide))
      have k25 : vals 25 = .pointer (some ⟨b, off + p * 3, none⟩) := hφ 25 (hd 25 (by decide))
      simp only [wpAt, List.getElem?_toArray, List.getElem?_cons_succ, List.getElem?_cons_zero, slotOf, frOf, Act.put]
      go_wp2_with fail
      first | exact ⟨trivial, rfl, trivial, hS⟩ | exact ⟨rfl, trivial, hS⟩
    · have k14 : vals 14 = .bool false := hφ 14 (hd 14 (by decide))
      have k26 : vals 26 = .pointer (some ⟨b, off + p * 3 + 1, none⟩) := hφ 26 (hd 26 (by decide))
      have d1 := (hP.next (HeldL.below hS)).hi p hp
      rw [hhi.out] at d1
      simp only [wpAt, List.getElem?_toArray, List.getElem?_cons_succ, List.getElem?_cons_zero, slotOf, frOf, Act.put]
      go_wp2_with fail
      first | exact ⟨trivial, rfl, trivial, hS⟩ | exact ⟨rfl, trivial, hS⟩
    · have k14 : vals 14 = .bool false := hφ 14 (hd 14 (by decide))
      have k15 : vals 15 = .int .i64 arg := hφ 15 (hd 15 (by decide))
      have k21 : vals 21 = .int .i64 lo := hφ 21 (hd 21 (by decide))
      have k27 : vals 27 = .int .i64 hi := hφ 27 (hd 27 (by decide))
      simp only [wpAt, List.getElem?_toArray, List.getElem?_cons_succ, List.getElem?_cons_zero, slotOf, frOf, Act.put]
      go_wp2_with fail
      refine (inS_is _ _ _ false _ hr.out).mono ?_
      rintro e W' ⟨rfl, hb⟩
      go_wp2_with fail
      first | exact ⟨trivial, rfl, trivial, HeldL.next hb hS⟩ | exact ⟨rfl, trivial, HeldL.next hb hS⟩
    · have k14 : vals 14 = .bool false := hφ 14 (hd 14 (by decide))
      have k28 : vals 28 = .bool false := hφ 28 (hd 28 (by decide))
      simp only [wpAt, List.getElem?_toArray, List.getElem?_cons_succ, List.getElem?_cons_zero, slotOf, frOf, Act.put]
      go_wp2_with fail
      first | exact ⟨trivial, rfl, trivial, hS⟩ | exact ⟨rfl, trivial, hS⟩
    · have k14 : vals 14 = .bool false := hφ 14 (hd 14 (by decide))
      have k29 : vals 29 = .bool true := hφ 29 (hd 29 (by decide))
      refine wpAt_of rfl rfl ?_
      simp only [frOf, Act.put]
      go_wp2_with fail
      first | exact ⟨trivial, rfl, trivial, hS⟩ | exact ⟨rfl, trivial, hS⟩
  · intro L vals W hall hφ hS
    have k0 : vals 0 = .agg #[.slice (some ⟨b, off, none⟩) m cap] := hφ 0 (by decide)
    have k1 : vals 1 = .bool true := hφ 1 (by decide)
    have k2 : vals 2 = .bool false := hφ 2 (by decide)
    have k3 : vals 3 = .bool false := hφ 3 (by decide)
    have k4 : vals 4 = .int .i64 p := hφ 4 (by decide)
    have k5 : vals 5 = .bool false := hφ 5 (by decide)
    have k6 : vals 6 = .bool false := hφ 6 (by decide)
    have k7 : vals 7 = .bool false := hφ 7 (by decide)
    have k8 : vals 8 = .int .i64 p := hφ 8 (by decide)
    have k9 : vals 9 = .pointer (some ⟨w.heap.size, 0, none⟩) := hφ 9 (by decide)
    have k10 : vals 10 = .slice (some ⟨b, off, none⟩) m cap := hφ 10 (by decide)
    have k11 : vals 11 = .int .i64 m := hφ 11 (by decide)
    have k12 : vals 12 = .bool false := hφ 12 (by decide)
    have k13 : vals 13 = .bool false := hφ 13 (by decide)
    have k14 : vals 14 = .bool false := hφ 14 (by decide)
    have k15 : vals 15 = .int .i64 arg := hφ 15 (by decide)
    have k16 : vals 16 = .pointer (some ⟨w.heap.size, 0, none⟩) := hφ 16 (by decide)
    have k17 : vals 17 = .slice (some ⟨b, off, none⟩) m cap := hφ 17 (by decide)
    have k18 : vals 18 = .int .i64 p := hφ 18 (by decide)
    have k19 : vals 19 = .pointer (some ⟨b, off + p * 3, none⟩) := hφ 19 (by decide)
    have k20 : vals 20 = .pointer (some ⟨b, off + p * 3, none⟩) := hφ 20 (by decide)
    have k21 : vals 21 = .int .i64 lo := hφ 21 (by decide)
    have k22 : vals 22 = .pointer (some ⟨w.heap.size, 0, none⟩) := hφ 22 (by decide)
    have k23 : vals 23 = .slice (some ⟨b, off, none⟩) m cap := hφ 23 (by decide)
    have k24 : vals 24 = .int .i64 p := hφ 24 (by decide)
    have k25 : vals 25 = .pointer (some ⟨b, off + p * 3, none⟩) := hφ 25 (by decide)
    have k26 : vals 26 = .pointer (some ⟨b, off + p * 3 + 1, none⟩) := hφ 26 (by decide)
    have k27 : vals 27 = .int .i64 hi := hφ 27 (by decide)
    have k28 : vals 28 = .bool false := hφ 28 (by decide)
    have k29 : vals 29 = .bool true := hφ 29 (by decide)
    have k30 : vals 30 = .bool true := hφ 30 (by decide)
    simp only [frOf, Act.put, List.setIfInBounds_toArray, List.set_cons_succ, List.set_cons_zero, k0, k1, k2, k3, k4, k5, k6, k7, k8, k9, k10, k11, k12, k13, k14, k15, k16, k17, k18, k19, k20, k21, k22, k23, k24, k25, k26, k27, k28, k29, k30]
    clear k0 k1 k2 k3 k4 k5 k6 k7 k8 k9 k10 k11 k12 k13 k14 k15 k16 k17 k18 k19 k20 k21 k22 k23 k24 k25 k26 k27 k28 k29 k30
    have o0 := hS.cell mO (i := 0) rfl
    have o1 := hS.cell mO (i := 1) rfl
    have o2 := hS.cell mO (i := 2) rfl
    have o3 := hS.cell mO (i := 3) rfl
    have o4 := hS.cell mO (i := 4) rfl
    have fO := hS.free _ mO
    dsimp only at o0 o1 o2 o3 o4 fO
    obtain ⟨e0, e1, e2, e3, e4⟩ := own5c o0 o1 o2 o3 o4
    have bE := hS.below
    go_wp2_with fail
    refine bodyPost_ret (v := .agg #[.int .i64 0, .slice none 0 0, .int .i64 0, .int .i64 0, .int .i64 0]) (by simp [results, Try.results27, go_sem, e0, e1, e2, e3, e4]) rfl ⟨_, rfl, ?_, ?_⟩
    · rw [hT.out.1, hT.out.2]
      exact ⟨none, 0, fun _ => ⟨⟨none, 0, 0, 0⟩, ⟨none, 0, 0, 0⟩⟩, rfl, fun h => by omega, fun i hi => by omega⟩
    · exact setAll_below (by omega) [.int .i64 0, .slice none 0 0, .int .i64 0, .int .i64 0, .int .i64 0] 0 _ bE

set_option maxRecDepth 10000 in
set_option maxHeartbeats 8000000 in
theorem runNewS_5 (b off m cap : Nat) (P : Nat → Proc) (S : Nat → Spot) (p : Nat) (arg lo hi : Int) (w : World) (hm : m ≤ 1048576) (hn : ∀ i, i < m → (P i).n ≤ 1048576) (hP : ProcsAt (some ⟨b, off, none⟩) b off m P S w) (hp : p < m) (g : prgOk P m = true) (hlo0 : (P p).lo = lo) (hhi0 : (P p).hi = hi) (hr0 : inB arg lo hi = true) :
    Calls Try.prog 27 #[.agg #[.slice (some ⟨b, off, none⟩) m cap], .int .i64 p, .int .i64 arg] w fun e w' => ∃ v, e = .returned v ∧ RunIs w.heap.size (newSt P m p arg) 0 0 0 (newQ P m p arg) (fun _ => EnterF p arg) v w' ∧ Below w.heap.size w w' := by
  have H0 : HeldL w [(w.heap.size + 1, [Value.int .i64 0, .slice none 0 0, .int .i64 0, .int .i64 0, .int .i64 0]), (w.heap.size, [Value.slice (some ⟨b, off, none⟩) m cap])] ((w.alloc (.cells #[.slice (some ⟨b, off, none⟩) m cap] 29)).alloc (.cells #[.int .i64 0, .slice none 0 0, .int .i64 0, .int .i64 0, .int .i64 0] 47)) := by
    have e1 : w.heap.size + 1 = (w.alloc (.cells #[.slice (some ⟨b, off, none⟩) m cap] 29)).heap.size := by simp
    rw [e1]
    exact HeldL.newL (vs := [Value.int .i64 0, .slice none 0 0, .int .i64 0, .int .i64 0, .int .i64 0]) (HeldL.newL (vs := [Value.slice (some ⟨b, off, none⟩) m cap]) (HeldL.nil w))
  obtain ⟨Lb, hLb⟩ : ∃ L, L = [(w.heap.size + 1, [Value.int .i64 0, .slice none 0 0, .int .i64 0, .int .i64 0, .int .i64 0]), (w.heap.size, [Value.slice (some ⟨b, off, none⟩) m cap])] := ⟨_, rfl⟩
  have mO : (w.heap.size + 1, [Value.int .i64 0, .slice none 0 0, .int .i64 0, .int .i64 0, .int .i64 0]) ∈ Lb := by rw [hLb]; simp
  have mP : (w.heap.size, [Value.slice (some ⟨b, off, none⟩) m cap]) ∈ Lb := by rw [hLb]; simp
  have hLS : Hid (Lb = [(w.heap.size + 1, [Value.int .i64 0, .slice none 0 0, .int .i64 0, .int .i64 0, .int .i64 0]), (w.heap.size, [Value.slice (some ⟨b, off, none⟩) m cap])]) := hLb
  rw [← hLb] at H0
  clear hLb
  have t1 : ((p : Int)).toNat = p := by omega
  have t2 : (0 : Int) ≤ (p : Int) := by omega
  have t3 : (p : Int) < (m : Int) := by omega
  have hd2 : decide (m ≤ p) = false := decide_eq_false (by omega)
  have hg : Hid (prgOk P m = true) := g
  have hlo : Hid ((P p).lo = lo) := hlo0
  have hhi : Hid ((P p).hi = hi) := hhi0
  have hr : Hid (inB arg lo hi = true) := hr0
  have hnew : newB P m p arg = true := by simp only [newB, placeQ, t1, hlo0, hhi0, hr0, g]; simp [t2, t3]
  have hT : Hid (newSt P m p arg = 1 ∧ newQ P m p arg = 1) := new_yes hnew
  clear g hlo0 hhi0 hr0 hnew
  go_enter Try.func27, Try.ntmps27
  go_wp2_with fail
  have hS0 := H0.drew
  clear H0
  refine region_inv3 [(0, 7), (1, 8), (2, 9), (3, 10), (4, 11), (5, 12), (6, 13), (7, 14), (8, 15), (9, 16), (10, 17), (11, 18), (12, 19), (13, 20), (14, 21), (15, 22), (16, 23), (17, 24), (18, 25), (19, 26), (20, 27), (21, 28), (22, 29), (23, 30), (24, 31), (25, 32), (26, 33), (27, 34), (28, 35), (29, 36), (30, 37)]
    (fun j vx _ => match j with
      | 0 => Is (.agg #[.slice (some ⟨b, off, none⟩) m cap]) vx
      | 1 => Is (.bool true) vx
      | 2 => Is (.bool false) vx
      | 3 => Is (.bool false) vx
      | 4 => Is (.int .i64 p) vx
      | 5 => Is (.bool false) vx
      | 6 => Is (.bool false) vx
      | 7 => Is (.bool false) vx
      | 8 => Is (.int .i64 p) vx
      | 9 => Is (.pointer (some ⟨w.heap.size, 0, none⟩)) vx
      | 10 => Is (.slice (some ⟨b, off, none⟩) m cap) vx
      | 11 => Is (.int .i64 m) vx
      | 12 => Is (.bool false) vx
      | 13 => Is (.bool false) vx
      | 14 => Is (.bool false) vx
      | 15 => Is (.int .i64 arg) vx
      | 16 => Is (.pointer (some ⟨w.heap.size, 0, none⟩)) vx
      | 17 => Is (.slice (some ⟨b, off, none⟩) m cap) vx
      | 18 => Is (.int .i64 p) vx
      | 19 => Is (.pointer (some ⟨b, off + p * 3, none⟩)) vx
      | 20 => Is (.pointer (some ⟨b, off + p * 3, none⟩)) vx
      | 21 => Is (.int .i64 lo) vx
      | 22 => Is (.pointer (some ⟨w.heap.size, 0, none⟩)) vx
      | 23 => Is (.slice (some ⟨b, off, none⟩) m cap) vx
      | 24 => Is (.int .i64 p) vx
      | 25 => Is (.pointer (some ⟨b, off + p * 3, none⟩)) vx
      | 26 => Is (.pointer (some ⟨b, off + p * 3 + 1, none⟩)) vx
      | 27 => Is (.int .i64 hi) vx
      | 28 => Is (.bool true) vx
      | 29 => Is (.bool false) vx
      | 30 => Is (.bool false) vx
      | _ => True)
    (fun _ W => HeldL w Lb W) TT
    (by kernel_rfl) (by kernel_rfl) (by kernel_rfl) (by kernel_rfl) (by kernel_rfl) rfl hS0 (fun i j v W W' _ h _ => h) ?_ ?_
  · intro i L vals W hi' hφ hS hL hd
    have hi2 : i < 31 := hi'
    clear hi'
    rcases (show i = 0 ∨ i = 1 ∨ i = 2 ∨ i = 3 ∨ i = 4 ∨ i = 5 ∨ i = 6 ∨ i = 7 ∨ i = 8 ∨ i = 9 ∨ i = 10 ∨ i = 11 ∨ i = 12 ∨ i = 13 ∨ i = 14 ∨ i = 15 ∨ i = 16 ∨ i = 17 ∨ i = 18 ∨ i = 19 ∨ i = 20 ∨ i = 21 ∨ i = 22 ∨ i = 23 ∨ i = 24 ∨ i = 25 ∨ i = 26 ∨ i = 27 ∨ i = 28 ∨ i = 29 ∨ i = 30 by omega) with rfl | rfl | rfl | rfl | rfl | rfl | rfl | rfl | rfl | rfl | rfl | rfl | rfl | rfl | rfl | rfl | rfl | rfl | rfl | rfl | rfl | rfl | rfl | rfl | rfl | rfl | rfl | rfl | rfl | rfl | rfl
    · have c0 := HeldL.cell hS mP (i := 0) rfl
      dsimp only at c0
      refine wpAt_of rfl rfl ?_
      simp only [frOf, Act.put]
      go_wp2_with fail
      first | exact ⟨trivial, rfl, trivial, hS⟩ | exact ⟨rfl, trivial, hS⟩
    · have k0 : vals 0 = .agg #[.slice (some ⟨b, off, none⟩) m cap] := hφ 0 (hd 0 (by decide))
      refine wpAt_of rfl rfl ?_
      simp only [frOf, Act.put]
      go_wp2_with fail
      refine (prgOkS_is _ _ _ _ _ _ _ (true) _ hm hn (hP.next (HeldL.below hS)) hg.out).mono ?_
      rintro e W' ⟨rfl, hb⟩
      go_wp2_with fail
      first | exact ⟨trivial, rfl, trivial, HeldL.next hb hS⟩ | exact ⟨rfl, trivial, HeldL.next hb hS⟩
    · have k1 : vals 1 = .bool true := hφ 1 (hd 1 (by decide))
      refine wpAt_of rfl rfl ?_
      simp only [frOf, Act.put]
      go_wp2_with fail
      first | exact ⟨trivial, rfl, trivial, hS⟩ | exact ⟨rfl, trivial, hS⟩
    · have k2 : vals 2 = .bool false := hφ 2 (hd 2 (by decide))
      refine wpAt_of rfl rfl ?_
      simp only [frOf, Act.put]
      go_wp2_with fail
      first | exact ⟨trivial, rfl, trivial, hS⟩ | exact ⟨rfl, trivial, hS⟩
    · have k3 : vals 3 = .bool false := hφ 3 (hd 3 (by decide))
      simp only [wpAt, List.getElem?_toArray, List.getElem?_cons_succ, List.getElem?_cons_zero, slotOf, frOf, Act.put]
      go_wp2_with fail
      first | exact ⟨trivial, rfl, trivial, hS⟩ | exact ⟨rfl, trivial, hS⟩
    · have k3 : vals 3 = .bool false := hφ 3 (hd 3 (by decide))
      have k4 : vals 4 = .int .i64 p := hφ 4 (hd 4 (by decide))
      simp only [wpAt, List.getElem?_toArray, List.getElem?_cons_succ, List.getElem?_cons_zero, slotOf, frOf, Act.put]
      go_wp2_with fail
      first | exact ⟨trivial, rfl, trivial, hS⟩ | exact ⟨rfl, trivial, hS⟩
    · have k3 : vals 3 = .bool false := hφ 3 (hd 3 (by decide))
      have k5 : vals 5 = .bool false := hφ 5 (hd 5 (by decide))
      refine wpAt_of rfl rfl ?_
      simp only [frOf, Act.put]
      go_wp2_with fail
      first | exact ⟨trivial, rfl, trivial, hS⟩ | exact ⟨rfl, trivial, hS⟩
    · have k6 : vals 6 = .bool false := hφ 6 (hd 6 (by decide))
      refine wpAt_of rfl rfl ?_
      simp only [frOf, Act.put]
      go_wp2_with fail
      first | exact ⟨trivial, rfl, trivial, hS⟩ | exact ⟨rfl, trivial, hS⟩
    · have k7 : vals 7 = .bool false := hφ 7 (hd 7 (by decide))
      simp only [wpAt, List.getElem?_toArray, List.getElem?_cons_succ, List.getElem?_cons_zero, slotOf, frOf, Act.put]
      go_wp2_with fail
      first | exact ⟨trivial, rfl, trivial, hS⟩ | exact ⟨rfl, trivial, hS⟩
    · have k7 : vals 7 = .bool false := hφ 7 (hd 7 (by decide))
      simp only [wpAt, List.getElem?_toArray, List.getElem?_cons_succ, List.getElem?_cons_zero, slotOf, frOf, Act.put]
      go_wp2_with fail
      first | exact ⟨trivial, rfl, trivial, hS⟩ | exact ⟨rfl, trivial, hS⟩
    · have k7 : vals 7 = .bool false := hφ 7 (hd 7 (by decide))
      have k9 : vals 9 = .pointer (some ⟨w.heap.size, 0, none⟩) := hφ 9 (hd 9 (by decide))
      have c0 := HeldL.cell hS mP (i := 0) rfl
      dsimp only at c0
      simp only [wpAt, List.getElem?_toArray, List.getElem?_cons_succ, List.getElem?_cons_zero, slotOf, frOf, Act.put]
      go_wp2_with fail
      first | exact ⟨trivial, rfl, trivial, hS⟩ | exact ⟨rfl, trivial, hS⟩
    · have k7 : vals 7 = .bool false := hφ 7 (hd 7 (by decide))
      have k10 : vals 10 = .slice (some ⟨b, off, none⟩) m cap := hφ 10 (hd 10 (by decide))
      simp only [wpAt, List.getElem?_toArray, List.getElem?_cons_succ, List.getElem?_cons_zero, slotOf, frOf, Act.put]
      go_wp2_with fail
      first | exact ⟨trivial, rfl, trivial, hS⟩ | exact ⟨rfl, trivial, hS⟩
    · have k7 : vals 7 = .bool false := hφ 7 (hd 7 (by decide))
      have k8 : vals 8 = .int .i64 p := hφ 8 (hd 8 (by decide))
      have k11 : vals 11 = .int .i64 m := hφ 11 (hd 11 (by decide))
      simp only [wpAt, List.getElem?_toArray, List.getElem?_cons_succ, List.getElem?_cons_zero, slotOf, frOf, Act.put]
      go_wp2_with fail
      first | exact ⟨trivial, rfl, trivial, hS⟩ | exact ⟨rfl, trivial, hS⟩
    · have k7 : vals 7 = .bool false := hφ 7 (hd 7 (by decide))
      have k12 : vals 12 = .bool false := hφ 12 (hd 12 (by decide))
      refine wpAt_of rfl rfl ?_
      simp only [frOf, Act.put]
      go_wp2_with fail
      first | exact ⟨trivial, rfl, trivial, hS⟩ | exact ⟨rfl, trivial, hS⟩
    · have k13 : vals 13 = .bool false := hφ 13 (hd 13 (by decide))
      refine wpAt_of rfl rfl ?_
      simp only [frOf, Act.put]
      go_wp2_with fail
      first | exact ⟨trivial, rfl, trivial, hS⟩ | exact ⟨rfl, trivial, hS⟩
    · have k14 : vals 14 = .bool false := hφ 14 (hd 14 (by decide))
      simp only [wpAt, List.getElem?_toArray, List.getElem?_cons_succ, List.getElem?_cons_zero, slotOf, frOf, Act.put]
      go_wp2_with fail
      first | exact ⟨trivial, rfl, trivial, hS⟩ | exact ⟨rfl, trivial, hS⟩
    · have k14 : vals 14 = .bool false := hφ 14 (hd 14 (by decide))
      simp only [wpAt, List.getElem?_toArray, List.getElem?_cons_succ, List.getElem?_cons_zero, slotOf, frOf, Act.put]
      go_wp2_with fail
      first | exact ⟨trivial, rfl, trivial, hS⟩ | exact ⟨rfl, trivial, hS⟩
    · have k14 : vals 14 = .bool false := hφ 14 (hd 14 (by decide))
      have k16 : vals 16 = .pointer (some ⟨w.heap.size, 0, none⟩) := hφ 16 (hd 16 (by decide))
      have c0 := HeldL.cell hS mP (i := 0) rfl
      dsimp only at c0
      simp only [wpAt, List.getElem?_toArray, List.getElem?_cons_succ, List.getElem?_cons_zero, slotOf, frOf, Act.put]
      go_wp2_with fail
      first | exact ⟨trivial, rfl, trivial, hS⟩ | exact ⟨rfl, trivial, hS⟩
    · have k14 : vals 14 = .bool false := hφ 14 (hd 14 (by decide))
      simp only [wpAt, List.getElem?_toArray, List.getElem?_cons_succ, List.getElem?_cons_zero, slotOf, frOf, Act.put]
      go_wp2_with fail
      first | exact ⟨trivial, rfl, trivial, hS⟩ | exact ⟨rfl, trivial, hS⟩
    · have k14 : vals 14 = .bool false := hφ 14 (hd 14 (by decide))
      have k17 : vals 17 = .slice (some ⟨b, off, none⟩) m cap := hφ 17 (hd 17 (by decide))
      have k18 : vals 18 = .int .i64 p := hφ 18 (hd 18 (by decide))
      simp only [wpAt, List.getElem?_toArray, List.getElem?_cons_succ, List.getElem?_cons_zero, slotOf, frOf, Act.put]
      go_wp2_with fail
      first | exact ⟨trivial, rfl, trivial, hS⟩ | exact ⟨rfl, trivial, hS⟩
    · have k14 : vals 14 = .bool false := hφ 14 (hd 14 (by decide))
      have k19 : vals 19 = .pointer (some ⟨b, off + p * 3, none⟩) := hφ 19 (hd 19 (by decide))
      simp only [wpAt, List.getElem?_toArray, List.getElem?_cons_succ, List.getElem?_cons_zero, slotOf, frOf, Act.put]
      go_wp2_with fail
      first | exact ⟨trivial, rfl, trivial, hS⟩ | exact ⟨rfl, trivial, hS⟩
    · have k14 : vals 14 = .bool false := hφ 14 (hd 14 (by decide))
      have k20 : vals 20 = .pointer (some ⟨b, off + p * 3, none⟩) := hφ 20 (hd 20 (by decide))
      have d0 := (hP.next (HeldL.below hS)).lo p hp
      rw [hlo.out] at d0
      simp only [wpAt, List.getElem?_toArray, List.getElem?_cons_succ, List.getElem?_cons_zero, slotOf, frOf, Act.put]
      go_wp2_with fail
      first | exact ⟨trivial, rfl, trivial, hS⟩ | exact ⟨rfl, trivial, hS⟩
    · have k14 : vals 14 = .bool false := hφ 14 (hd 14 (by decide))
      simp only [wpAt, List.getElem?_toArray, List.getElem?_cons_succ, List.getElem?_cons_zero, slotOf, frOf, Act.put]
      go_wp2_with fail
      first | exact ⟨trivial, rfl, trivial, hS⟩ | exact ⟨rfl, trivial, hS⟩
    · have k14 : vals 14 = .bool false := hφ 14 (hd 14 (by decide))
      have k22 : vals 22 = .pointer (some ⟨w.heap.size, 0, none⟩) := hφ 22 (hd 22 (by decide))
      have c0 := HeldL.cell hS mP (i := 0) rfl
      dsimp only at c0
      simp only [wpAt, List.getElem?_toArray, List.getElem?_cons_succ, List.getElem?_cons_zero, slotOf, frOf, Act.put]
      go_wp2_with fail
      first | exact ⟨trivial, rfl, trivial, hS⟩ | exact ⟨rfl, trivial, hS⟩
    · have k14 : vals 14 = .bool false := hφ 14 (hd 14 (by decide))
      simp only [wpAt, List.getElem?_toArray, List.getElem?_cons_succ, List.getElem?_cons_zero, slotOf, frOf, Act.put]
      go_wp2_with fail
      first | exact ⟨trivial, rfl, trivial, hS⟩ | exact ⟨rfl, trivial, hS⟩
    · have k14 : vals 14 = .bool false := hφ 14 (hd 14 (by decide))
      have k23 : vals 23 = .slice (some ⟨b, off, none⟩) m cap := hφ 23 (hd 23 (by decide))
      have k24 : vals 24 = .int .i64 p := hφ 24 (hd 24 (by decide))
      simp only [wpAt, List.getElem?_toArray, List.getElem?_cons_succ, List.getElem?_cons_zero, slotOf, frOf, Act.put]
      go_wp2_with fail
      first | exact ⟨trivial, rfl, trivial, hS⟩ | exact ⟨rfl, trivial, hS⟩
    · have k14 : vals 14 = .bool false := hφ 14 (hd 14 (by decide))
      have k25 : vals 25 = .pointer (some ⟨b, off + p * 3, none⟩) := hφ 25 (hd 25 (by decide))
      simp only [wpAt, List.getElem?_toArray, List.getElem?_cons_succ, List.getElem?_cons_zero, slotOf, frOf, Act.put]
      go_wp2_with fail
      first | exact ⟨trivial, rfl, trivial, hS⟩ | exact ⟨rfl, trivial, hS⟩
    · have k14 : vals 14 = .bool false := hφ 14 (hd 14 (by decide))
      have k26 : vals 26 = .pointer (some ⟨b, off + p * 3 + 1, none⟩) := hφ 26 (hd 26 (by decide))
      have d1 := (hP.next (HeldL.below hS)).hi p hp
      rw [hhi.out] at d1
      simp only [wpAt, List.getElem?_toArray, List.getElem?_cons_succ, List.getElem?_cons_zero, slotOf, frOf, Act.put]
      go_wp2_with fail
      first | exact ⟨trivial, rfl, trivial, hS⟩ | exact ⟨rfl, trivial, hS⟩
    · have k14 : vals 14 = .bool false := hφ 14 (hd 14 (by decide))
      have k15 : vals 15 = .int .i64 arg := hφ 15 (hd 15 (by decide))
      have k21 : vals 21 = .int .i64 lo := hφ 21 (hd 21 (by decide))
      have k27 : vals 27 = .int .i64 hi := hφ 27 (hd 27 (by decide))
      simp only [wpAt, List.getElem?_toArray, List.getElem?_cons_succ, List.getElem?_cons_zero, slotOf, frOf, Act.put]
      go_wp2_with fail
      refine (inS_is _ _ _ true _ hr.out).mono ?_
      rintro e W' ⟨rfl, hb⟩
      go_wp2_with fail
      first | exact ⟨trivial, rfl, trivial, HeldL.next hb hS⟩ | exact ⟨rfl, trivial, HeldL.next hb hS⟩
    · have k14 : vals 14 = .bool false := hφ 14 (hd 14 (by decide))
      have k28 : vals 28 = .bool true := hφ 28 (hd 28 (by decide))
      simp only [wpAt, List.getElem?_toArray, List.getElem?_cons_succ, List.getElem?_cons_zero, slotOf, frOf, Act.put]
      go_wp2_with fail
      first | exact ⟨trivial, rfl, trivial, hS⟩ | exact ⟨rfl, trivial, hS⟩
    · have k14 : vals 14 = .bool false := hφ 14 (hd 14 (by decide))
      have k29 : vals 29 = .bool false := hφ 29 (hd 29 (by decide))
      refine wpAt_of rfl rfl ?_
      simp only [frOf, Act.put]
      go_wp2_with fail
      first | exact ⟨trivial, rfl, trivial, hS⟩ | exact ⟨rfl, trivial, hS⟩
  · intro L vals W hall hφ hS
    have k0 : vals 0 = .agg #[.slice (some ⟨b, off, none⟩) m cap] := hφ 0 (by decide)
    have k1 : vals 1 = .bool true := hφ 1 (by decide)
    have k2 : vals 2 = .bool false := hφ 2 (by decide)
    have k3 : vals 3 = .bool false := hφ 3 (by decide)
    have k4 : vals 4 = .int .i64 p := hφ 4 (by decide)
    have k5 : vals 5 = .bool false := hφ 5 (by decide)
    have k6 : vals 6 = .bool false := hφ 6 (by decide)
    have k7 : vals 7 = .bool false := hφ 7 (by decide)
    have k8 : vals 8 = .int .i64 p := hφ 8 (by decide)
    have k9 : vals 9 = .pointer (some ⟨w.heap.size, 0, none⟩) := hφ 9 (by decide)
    have k10 : vals 10 = .slice (some ⟨b, off, none⟩) m cap := hφ 10 (by decide)
    have k11 : vals 11 = .int .i64 m := hφ 11 (by decide)
    have k12 : vals 12 = .bool false := hφ 12 (by decide)
    have k13 : vals 13 = .bool false := hφ 13 (by decide)
    have k14 : vals 14 = .bool false := hφ 14 (by decide)
    have k15 : vals 15 = .int .i64 arg := hφ 15 (by decide)
    have k16 : vals 16 = .pointer (some ⟨w.heap.size, 0, none⟩) := hφ 16 (by decide)
    have k17 : vals 17 = .slice (some ⟨b, off, none⟩) m cap := hφ 17 (by decide)
    have k18 : vals 18 = .int .i64 p := hφ 18 (by decide)
    have k19 : vals 19 = .pointer (some ⟨b, off + p * 3, none⟩) := hφ 19 (by decide)
    have k20 : vals 20 = .pointer (some ⟨b, off + p * 3, none⟩) := hφ 20 (by decide)
    have k21 : vals 21 = .int .i64 lo := hφ 21 (by decide)
    have k22 : vals 22 = .pointer (some ⟨w.heap.size, 0, none⟩) := hφ 22 (by decide)
    have k23 : vals 23 = .slice (some ⟨b, off, none⟩) m cap := hφ 23 (by decide)
    have k24 : vals 24 = .int .i64 p := hφ 24 (by decide)
    have k25 : vals 25 = .pointer (some ⟨b, off + p * 3, none⟩) := hφ 25 (by decide)
    have k26 : vals 26 = .pointer (some ⟨b, off + p * 3 + 1, none⟩) := hφ 26 (by decide)
    have k27 : vals 27 = .int .i64 hi := hφ 27 (by decide)
    have k28 : vals 28 = .bool true := hφ 28 (by decide)
    have k29 : vals 29 = .bool false := hφ 29 (by decide)
    have k30 : vals 30 = .bool false := hφ 30 (by decide)
    simp only [frOf, Act.put, List.setIfInBounds_toArray, List.set_cons_succ, List.set_cons_zero, k0, k1, k2, k3, k4, k5, k6, k7, k8, k9, k10, k11, k12, k13, k14, k15, k16, k17, k18, k19, k20, k21, k22, k23, k24, k25, k26, k27, k28, k29, k30]
    clear k0 k1 k2 k3 k4 k5 k6 k7 k8 k9 k10 k11 k12 k13 k14 k15 k16 k17 k18 k19 k20 k21 k22 k23 k24 k25 k26 k27 k28 k29 k30
    go_wp2_with fail
    refine (enterS _ _ _).mono ?_
    rintro e w5 ⟨v, rfl, ⟨g, g', rfl, hg1, hg2, hg3, hg4, hgg, I1, I2, f1, f2⟩, hb⟩
    have hsW := hS.below.size
    have lW := HeldL.size hS mO
    have H4 := HeldL.next hb hS
    have lO := H4.size mO
    dsimp only at lO lW
    have o0 := H4.cell mO (i := 0) rfl
    have o1 := H4.cell mO (i := 1) rfl
    have o2 := H4.cell mO (i := 2) rfl
    have o3 := H4.cell mO (i := 3) rfl
    have o4 := H4.cell mO (i := 4) rfl
    have fO := H4.free _ mO
    dsimp only at o0 o1 o2 o3 o4 fO
    obtain ⟨e0, e1, e2, e3, e4⟩ := own5c o0 o1 o2 o3 o4
    have b5 := H4.below
    have s6 : (setAll (w.heap.size + 1) 0 [.int .i64 1, .slice (some ⟨w5.heap.size, 0, none⟩) 1 1, .int .i64 0, .int .i64 0, .int .i64 0] w5).heap.size = w5.heap.size := by simp [setAll, World.setCell]
    have b6 : Below w.heap.size w (setAll (w.heap.size + 1) 0 [.int .i64 1, .slice (some ⟨w5.heap.size, 0, none⟩) 1 1, .int .i64 0, .int .i64 0, .int .i64 0] w5) := setAll_below (by omega) [.int .i64 1, .slice (some ⟨w5.heap.size, 0, none⟩) 1 1, .int .i64 0, .int .i64 0, .int .i64 0] 0 _ b5
    have J1 : IntsAt (some ⟨g, 0, none⟩) g 0 4 (entZ arg) (setAll (w.heap.size + 1) 0 [.int .i64 1, .slice (some ⟨w5.heap.size, 0, none⟩) 1 1, .int .i64 0, .int .i64 0, .int .i64 0] w5) := I1.set (by omega)
    have J2 : IntsAt (some ⟨g', 0, none⟩) g' 0 4 (fun _ => 0) (setAll (w.heap.size + 1) 0 [.int .i64 1, .slice (some ⟨w5.heap.size, 0, none⟩) 1 1, .int .i64 0, .int .i64 0, .int .i64 0] w5) := I2.set (by omega)
    have k1 : ∀ j, (setAll (w.heap.size + 1) 0 [.int .i64 1, .slice (some ⟨w5.heap.size, 0, none⟩) 1 1, .int .i64 0, .int .i64 0, .int .i64 0] w5).frozen? ⟨g, j, none⟩ = false := fun j => (setAll_frozen _ _ _ _).trans (f1 j)
    have k2 : ∀ j, (setAll (w.heap.size + 1) 0 [.int .i64 1, .slice (some ⟨w5.heap.size, 0, none⟩) 1 1, .int .i64 0, .int .i64 0, .int .i64 0] w5).frozen? ⟨g', j, none⟩ = false := fun j => (setAll_frozen _ _ _ _).trans (f2 j)
    have fin := runIs_one (B := w.heap.size) (proc := p) (t := 73) (by rw [s6]; omega) ⟨by omega, by rw [s6]; exact hg2⟩ ⟨by omega, by rw [s6]; exact hg4⟩ hgg J1 J2 k1 k2
    rw [s6] at fin
    have finS : Hid (RunIs w.heap.size 1 0 0 0 1 (fun _ => EnterF p arg) (.agg #[.int .i64 1, .slice (some ⟨w5.heap.size, 0, none⟩) 1 1, .int .i64 0, .int .i64 0, .int .i64 0]) ((setAll (w.heap.size + 1) 0 [.int .i64 1, .slice (some ⟨w5.heap.size, 0, none⟩) 1 1, .int .i64 0, .int .i64 0, .int .i64 0] w5).alloc (.cells #[.int .i64 p, .int .i64 0, .slice (some ⟨g, 0, none⟩) 4 4, .slice (some ⟨g', 0, none⟩) 4 4] 73))) := fin
    have bS : Hid (Below w.heap.size w ((setAll (w.heap.size + 1) 0 [.int .i64 1, .slice (some ⟨w5.heap.size, 0, none⟩) 1 1, .int .i64 0, .int .i64 0, .int .i64 0] w5).alloc (.cells #[.int .i64 p, .int .i64 0, .slice (some ⟨g, 0, none⟩) 4 4, .slice (some ⟨g', 0, none⟩) 4 4] 73))) := b6.alloc b6.size _
    clear hb H4 I1 I2 J1 J2 f1 f2 k1 k2 fin b6 s6
    go_wp2_with fail
    refine bodyPost_ret (v := .agg #[.int .i64 1, .slice (some ⟨w5.heap.size, 0, none⟩) 1 1, .int .i64 0, .int .i64 0, .int .i64 0]) (by simp [results, Try.results27, go_sem, e0, e1, e2, e3, e4, lO]) rfl ⟨_, rfl, ?_, ?_⟩
    · rw [hT.out.1, hT.out.2]
      exact finS.out
    · exact bS.out

theorem runNewS (a : Option Addr) (b off m cap : Nat) (P : Nat → Proc) (S : Nat → Spot) (proc arg : Int) (w : World) (hm : m ≤ 1048576) (hn : ∀ i, i < m → (P i).n ≤ 1048576) (hP : ProcsAt a b off m P S w) :
    Calls Try.prog 27 #[.agg #[.slice a m cap], .int .i64 proc, .int .i64 arg] w fun e w' => ∃ v, e = .returned v ∧ RunIs w.heap.size (newSt P m proc arg) 0 0 0 (newQ P m proc arg) (fun _ => EnterF proc arg) v w' ∧ Below w.heap.size w w' := by
  cases g : prgOk P m
  · exact runNewS_1 a b off m cap P S proc arg w hm hn hP g
  by_cases h1 : proc < 0
  · exact runNewS_2 a b off m cap P S proc arg w hm hn hP g h1
  by_cases h2 : (m : Int) ≤ proc
  · exact runNewS_3 a b off m cap P S proc arg w hm hn hP g h1 h2
  obtain ⟨p, rfl⟩ : ∃ p : Nat, proc = p := ⟨proc.toNat, by omega⟩
  have hp : p < m := by omega
  have ea := hP.at_ (by omega)
  subst ea
  cases r : inB arg (P p).lo (P p).hi
  · exact runNewS_4 b off m cap P S p arg _ _ w hm hn hP hp g rfl rfl r
  · exact runNewS_5 b off m cap P S p arg _ _ w hm hn hP hp g rfl rfl r
end Go.Proofs.Ytndedplmcjfgeaa
