/- Whatever bytes are handed in, the law FnItvIn returns true. Of more than 1048576 bytes the law itself answers true. No condition. -/
import Derived.Test.YtbnpbjkdigmphabDrawIn2
import Derived.Test.YtbnpbjkdigmphabItvTwo
import Derived.Test.YtbnpbjkdigmphabItvI
import Derived.Test.YtbnpbjkdigmphabRegInv
import Derived.Deep.RegionHeld3
import Derived.Deep.DeepCutAuto
import Derived.WalkKit
import Derived.ProofKit
import Derived.OpenShut
import Derived.ShutString
import Derived.ChangeOld
import Derived.Below
namespace Go.Proofs.Ytbnpbjkdigmphab.fnItvIn
open Go.ChangeShapes Go.WideShapes Go.ChangeAt Go.RowKit
open Go.ChangeMaps (open_string shut_string)
set_option linter.unusedVariables false

theorem own : ownKnob Try.prog.godebug = none := by kernel_rfl
theorem laidOut : laidOutB Try.prog = true := by kernel_rfl

theorem inI_is (a b c d : Int) (t : Bool) (w : World) (h : itvIn a b c d = t) :
    Calls Try.prog 16 #[.agg #[.int .i64 a, .int .i64 b], .agg #[.int .i64 c, .int .i64 d]] w fun e w' => e = .returned (.bool t) ∧ Below w.heap.size w w' := by
  subst h; exact itvInI a b c d w
theorem inS_is (a b c d : Int) (t : Bool) (w : World) (h : itvIn a b c d = t) :
    Calls Try.prog 17 #[.agg #[.int .i64 a, .int .i64 b], .agg #[.int .i64 c, .int .i64 d]] w fun e w' => e = .returned (.bool t) ∧ Below w.heap.size w w' := by
  subst h; exact itvInS a b c d w
theorem hasI_is (a b n : Int) (t : Bool) (w : World) (h : itvHas a b n = t) :
    Calls Try.prog 11 #[.agg #[.int .i64 a, .int .i64 b], .int .i64 n] w fun e w' => e = .returned (.bool t) ∧ Below w.heap.size w w' := by
  subst h; exact itvHasI a b n w
theorem allI_is (w : World) :
    Calls Try.prog 19 #[] w fun e w' => e = .returned (.agg #[.int .i64 (-32768), .int .i64 32767]) ∧ Below w.heap.size w w' := itvAllI w
theorem ok_all {a b : Int} (h : itvOk a b = true) : -32768 ≤ a ∧ a ≤ 32767 ∧ -32768 ≤ b ∧ b ≤ 32767 ∧ a ≤ b := by
  obtain ⟨h1, h2, h3⟩ := itvOk_of h
  exact ⟨ok_lo h1, ok_hi h1, ok_lo h2, ok_hi h2, h3⟩
theorem ok_mk {a b : Int} (h : -32768 ≤ a ∧ b ≤ 32767 ∧ a ≤ b) : itvOk a b = true := by
  simp [itvOk, okB]; omega
theorem join_is {a b c d : Int} (h1 : itvOk a b = true) (h2 : itvOk c d = true) : joinLo a b c d = min a c ∧ joinHi a b c d = max b d := by
  simp [joinLo, joinHi, two, h1, h2]
theorem in_mk {a b c d : Int} (h1 : itvOk a b = true) (h2 : itvOk c d = true) (h3 : c ≤ a ∧ b ≤ d) : itvIn a b c d = true := by
  simp [itvIn, h1, h2, h3.1, h3.2]
theorem in_of {a b c d : Int} (h : itvIn a b c d = true) : itvOk a b = true ∧ itvOk c d = true ∧ c ≤ a ∧ b ≤ d := by
  simp [itvIn] at h
  exact ⟨h.1.1.1, h.1.1.2, h.1.2, h.2⟩
theorem join_ok {a b c d : Int} (h1 : itvOk a b = true) (h2 : itvOk c d = true) : itvOk (joinLo a b c d) (joinHi a b c d) = true := by
  obtain ⟨e1, e2⟩ := join_is h1 h2
  have k1 := ok_all h1
  have k2 := ok_all h2
  rw [e1, e2]
  exact ok_mk (by omega)
theorem in_join_l {a b c d : Int} (h1 : itvOk a b = true) (h2 : itvOk c d = true) : itvIn a b (joinLo a b c d) (joinHi a b c d) = true := by
  obtain ⟨e1, e2⟩ := join_is h1 h2
  exact in_mk h1 (join_ok h1 h2) (by rw [e1, e2]; omega)
theorem in_join_r {a b c d : Int} (h1 : itvOk a b = true) (h2 : itvOk c d = true) : itvIn c d (joinLo a b c d) (joinHi a b c d) = true := by
  obtain ⟨e1, e2⟩ := join_is h1 h2
  exact in_mk h2 (join_ok h1 h2) (by rw [e1, e2]; omega)
theorem join_comm0 (a b c d : Int) : joinLo c d a b = joinLo a b c d ∧ joinHi c d a b = joinHi a b c d := by
  unfold joinLo joinHi two
  cases itvOk a b <;> cases itvOk c d <;> simp <;> omega
theorem join_least {a b c d e f : Int} (h1 : itvIn a b e f = true) (h2 : itvIn c d e f = true) : itvIn (joinLo a b c d) (joinHi a b c d) e f = true := by
  obtain ⟨k1, k2, k3, k4⟩ := in_of h1
  obtain ⟨l1, _, l3, l4⟩ := in_of h2
  obtain ⟨e1, e2⟩ := join_is k1 l1
  exact in_mk (join_ok k1 l1) k2 (by rw [e1, e2]; omega)
theorem join_assoc {a b c d e f : Int} (h1 : itvOk a b = true) (h2 : itvOk c d = true) (h3 : itvOk e f = true) : joinLo (joinLo a b c d) (joinHi a b c d) e f = joinLo a b (joinLo c d e f) (joinHi c d e f) ∧ joinHi (joinLo a b c d) (joinHi a b c d) e f = joinHi a b (joinLo c d e f) (joinHi c d e f) := by
  obtain ⟨e1, e2⟩ := join_is (join_ok h1 h2) h3
  obtain ⟨e3, e4⟩ := join_is h1 (join_ok h2 h3)
  obtain ⟨e5, e6⟩ := join_is h1 h2
  obtain ⟨e7, e8⟩ := join_is h2 h3
  rw [e1, e2, e3, e4, e5, e6, e7, e8]
  omega
theorem in_has {a b c d : Int} (h1 : itvOk a b = true) (h2 : itvOk c d = true) : itvIn a b c d = (itvHas c d a && itvHas c d b) := by
  have k1 := ok_all h1
  rw [Bool.eq_iff_iff]
  simp [itvIn, itvHas, h1, h2]
  omega
theorem in_both {a b c d : Int} (h1 : itvIn a b c d = true) (h2 : itvIn c d a b = true) : a = c ∧ b = d := by
  obtain ⟨_, _, h3, h4⟩ := in_of h1
  obtain ⟨_, _, h5, h6⟩ := in_of h2
  omega
theorem in_trans_join {a b c d e f : Int} (h1 : itvIn a b c d = true) (h2 : itvOk e f = true) : itvIn a b (joinLo c d e f) (joinHi c d e f) = true := by
  obtain ⟨k1, k2, k3, k4⟩ := in_of h1
  obtain ⟨e1, e2⟩ := join_is k2 h2
  exact in_mk k1 (join_ok k2 h2) (by rw [e1, e2]; omega)
theorem owOkT (w : World) : Calls Try.prog 9 #[] w fun e w' => e = .returned (.bool true) ∧ w' = w := by
  go_enter Try.func9, Try.ntmps9
  go_wp2_with (go_at_call 30; refine (okI _ _).mono ?_; rintro e w' ⟨rfl, rfl⟩)
  go_ret
  exact ⟨rfl, rfl⟩

set_option maxHeartbeats 8000000 in
theorem walk (a0 : Option Addr) (len0 cap0 : Nat) (z0 : Nat → Int) (a1 : Option Addr) (len1 cap1 : Nat) (z1 : Nat → Int) (w : World) (hz0 : ∀ i, 0 ≤ z0 i ∧ z0 i ≤ 255) (r0 : Bytes w a0 len0 cap0 z0) (hz1 : ∀ i, 0 ≤ z1 i ∧ z1 i ≤ 255) (r1 : Bytes w a1 len1 cap1 z1) :
    Calls Try.prog 4 #[.slice a0 len0 cap0, .slice a1 len1 cap1] w fun e w' => e = .returned (.bool true) ∧ Below w.heap.size w w' := by
  by_cases hl0 : len0 ≤ 1048576
  case neg =>
    have hi : (1048576 : Int) < (len0 : Int) := by omega
    go_enter Try.func4, Try.ntmps4
    go_wp2_with fail
    go_ret
    exact ⟨rfl, Below.refl _ _⟩
  have hi0 : ¬ (1048576 : Int) < (len0 : Int) := by omega
  by_cases hl1 : len1 ≤ 1048576
  case neg =>
    have hi : (1048576 : Int) < (len1 : Int) := by omega
    go_enter Try.func4, Try.ntmps4
    go_wp2_with fail
    go_ret
    exact ⟨rfl, Below.refl _ _⟩
  have hi1 : ¬ (1048576 : Int) < (len1 : Int) := by omega
  go_enter Try.func4, Try.ntmps4
  go_wp2_with fail
  refine (drawIn a0 len0 cap0 z0 _ hz0 hl0 r0).mono ?_
  rintro e w1 ⟨x0, x1, y0, y1, hx0, hx1, hy0, hy1, rfl, b1⟩
  have H3 : HeldL w [(w1.heap.size + 1, [Value.int .i64 y0, .int .i64 y1]), (w1.heap.size, [Value.int .i64 x0, .int .i64 x1])] ((w1.alloc (.cells #[.int .i64 x0, .int .i64 x1] 29)).alloc (.cells #[.int .i64 y0, .int .i64 y1] 29)) := by
    have e : w1.heap.size + 1 = (w1.alloc (.cells #[.int .i64 x0, .int .i64 x1] 29)).heap.size := by simp
    rw [e]
    exact HeldL.new (HeldL.new ((HeldL.nil w).next b1))
  have r1' := r1.kept H3.below
  clear r0 r1
  go_wp2_with fail
  refine (drawIn a1 len1 cap1 z1 _ hz1 hl1 r1').mono ?_
  rintro e w2 ⟨u0, u1, v0, v1, hu0, hu1, hv0, hv1, rfl, b2⟩
  have H5 : HeldL w [(w2.heap.size + 1, [Value.int .i64 v0, .int .i64 v1]), (w2.heap.size, [Value.int .i64 u0, .int .i64 u1]), (w1.heap.size + 1, [Value.int .i64 y0, .int .i64 y1]), (w1.heap.size, [Value.int .i64 x0, .int .i64 x1])] ((w2.alloc (.cells #[.int .i64 u0, .int .i64 u1] 29)).alloc (.cells #[.int .i64 v0, .int .i64 v1] 29)) := by
    have e : w2.heap.size + 1 = (w2.alloc (.cells #[.int .i64 u0, .int .i64 u1] 29)).heap.size := by simp
    rw [e]
    exact HeldL.new (HeldL.new (H3.next b2))
  obtain ⟨Lb, hLb⟩ : ∃ Lb, Lb = [(w2.heap.size + 1, [Value.int .i64 v0, .int .i64 v1]), (w2.heap.size, [Value.int .i64 u0, .int .i64 u1]), (w1.heap.size + 1, [Value.int .i64 y0, .int .i64 y1]), (w1.heap.size, [Value.int .i64 x0, .int .i64 x1])] := ⟨_, rfl⟩
  have mA : (w1.heap.size, [Value.int .i64 x0, .int .i64 x1]) ∈ Lb := by rw [hLb]; simp
  have mB : (w1.heap.size + 1, [Value.int .i64 y0, .int .i64 y1]) ∈ Lb := by rw [hLb]; simp
  have mC : (w2.heap.size, [Value.int .i64 u0, .int .i64 u1]) ∈ Lb := by rw [hLb]; simp
  have mD : (w2.heap.size + 1, [Value.int .i64 v0, .int .i64 v1]) ∈ Lb := by rw [hLb]; simp
  rw [← hLb] at H5
  have a0' : _ = some (Value.int .i64 x0) := H5.cell mA (i := 0) rfl
  have a1' : _ = some (Value.int .i64 x1) := H5.cell mA (i := 1) rfl
  have a2' : _ = some (Value.int .i64 y0) := H5.cell mB (i := 0) rfl
  have a3' : _ = some (Value.int .i64 y1) := H5.cell mB (i := 1) rfl
  dsimp only at a0' a1' a2' a3'
  clear r1' H3 b2 hLb b1
  obtain ⟨iab, hab0⟩ : ∃ t, itvIn x0 x1 y0 y1 = t := ⟨_, rfl⟩
  obtain ⟨icd, hcd0⟩ : ∃ t, itvIn u0 u1 v0 v1 = t := ⟨_, rfl⟩
  have hab : Hid (itvIn x0 x1 y0 y1 = iab) := hab0
  have hcd : Hid (itvIn u0 u1 v0 v1 = icd) := hcd0
  clear hab0 hcd0
  go_wp2_with fail
  refine (inI_is _ _ _ _ iab _ hab.out).mono ?_
  rintro e w3 ⟨rfl, b3⟩
  have H6 := H5.next b3
  have hS0 : HeldL w Lb w3.drew := H6.drew
  clear H5 H6 b3 a0' a1' a2' a3'
  go_wp2_with fail
  refine region_inv3 [(0, 32), (1, 33), (2, 34), (3, 35), (4, 36), (5, 37), (6, 38), (7, 39), (8, 40), (9, 41), (10, 42), (11, 43), (12, 44), (13, 45)]
    (fun j v _ => match j with
      | 0 => Is (.bool iab) v
      | 1 => Is (.agg #[.int .i64 x0, .int .i64 x1]) v
      | 2 => Is (.agg #[.int .i64 y0, .int .i64 y1]) v
      | 3 => Is (.bool iab) v
      | 4 => Is (.bool false) v
      | 5 => Is (.bool false) v
      | 6 => Is (.agg #[.int .i64 u0, .int .i64 u1]) v
      | 7 => Is (.agg #[.int .i64 v0, .int .i64 v1]) v
      | 8 => Is (.bool icd) v
      | 9 => Is (.agg #[.int .i64 u0, .int .i64 u1]) v
      | 10 => Is (.agg #[.int .i64 v0, .int .i64 v1]) v
      | 11 => Is (.bool icd) v
      | 12 => Is (.bool false) v
      | 13 => Is (.bool false) v
      | _ => True)
    (fun _ W => HeldL w Lb W) TT
    (by kernel_rfl) (by kernel_rfl) (by kernel_rfl) (by kernel_rfl) (by kernel_rfl) rfl hS0 (fun i j v W W' _ h _ => h) ?_ ?_
  · intro i L vals W hi' hφ hS hL hd
    have hi2 : i < 14 := hi'
    rcases (show i = 0 ∨ i = 1 ∨ i = 2 ∨ i = 3 ∨ i = 4 ∨ i = 5 ∨ i = 6 ∨ i = 7 ∨ i = 8 ∨ i = 9 ∨ i = 10 ∨ i = 11 ∨ i = 12 ∨ i = 13 by omega) with rfl | rfl | rfl | rfl | rfl | rfl | rfl | rfl | rfl | rfl | rfl | rfl | rfl | rfl
    · refine wpAt_of rfl rfl ?_
      simp only [frOf, Act.put]
      go_wp2_with fail
      first | exact ⟨trivial, rfl, trivial, hS⟩ | exact ⟨rfl, trivial, hS⟩
    · have c0 : W.cell? ⟨w1.heap.size, 0, none⟩ = some (.int .i64 x0) := HeldL.cell hS mA (i := 0) rfl
      have c1 : W.cell? ⟨w1.heap.size, 1, none⟩ = some (.int .i64 x1) := HeldL.cell hS mA (i := 1) rfl
      refine wpAt_of rfl rfl ?_
      simp only [frOf, Act.put]
      go_wp2_with fail
      first | exact ⟨trivial, rfl, trivial, hS⟩ | exact ⟨rfl, trivial, hS⟩
    · have c0 : W.cell? ⟨w1.heap.size + 1, 0, none⟩ = some (.int .i64 y0) := HeldL.cell hS mB (i := 0) rfl
      have c1 : W.cell? ⟨w1.heap.size + 1, 1, none⟩ = some (.int .i64 y1) := HeldL.cell hS mB (i := 1) rfl
      refine wpAt_of rfl rfl ?_
      simp only [frOf, Act.put]
      go_wp2_with fail
      first | exact ⟨trivial, rfl, trivial, hS⟩ | exact ⟨rfl, trivial, hS⟩
    · have k1 : vals 1 = .agg #[.int .i64 x0, .int .i64 x1] := hφ 1 (hd 1 (by decide))
      have k2 : vals 2 = .agg #[.int .i64 y0, .int .i64 y1] := hφ 2 (hd 2 (by decide))
      refine wpAt_of rfl rfl ?_
      simp only [frOf, Act.put]
      go_wp2_with fail
      refine (inS_is _ _ _ _ _ _ (by first | exact hab.out | exact hcd.out)).mono ?_
      rintro e W' ⟨rfl, hb⟩
      go_wp2_with fail
      first | exact ⟨trivial, rfl, trivial, HeldL.next hb hS⟩ | exact ⟨rfl, trivial, HeldL.next hb hS⟩
    · have k0 : vals 0 = .bool iab := hφ 0 (hd 0 (by decide))
      have k3 : vals 3 = .bool iab := hφ 3 (hd 3 (by decide))
      refine wpAt_of rfl rfl ?_
      simp only [frOf, Act.put]
      go_wp2_with fail
      first | exact ⟨trivial, rfl, trivial, hS⟩ | exact ⟨rfl, trivial, hS⟩
    · have k4 : vals 4 = .bool false := hφ 4 (hd 4 (by decide))
      refine wpAt_of rfl rfl ?_
      simp only [frOf, Act.put]
      go_wp2_with fail
      first | exact ⟨trivial, rfl, trivial, hS⟩ | exact ⟨rfl, trivial, hS⟩
    · have k5 : vals 5 = .bool false := hφ 5 (hd 5 (by decide))
      have c0 : W.cell? ⟨w2.heap.size, 0, none⟩ = some (.int .i64 u0) := HeldL.cell hS mC (i := 0) rfl
      have c1 : W.cell? ⟨w2.heap.size, 1, none⟩ = some (.int .i64 u1) := HeldL.cell hS mC (i := 1) rfl
      simp only [wpAt, List.getElem?_toArray, List.getElem?_cons_succ, List.getElem?_cons_zero, slotOf, frOf, Act.put]
      go_wp2_with fail
      first | exact ⟨trivial, rfl, trivial, hS⟩ | exact ⟨rfl, trivial, hS⟩
    · have k5 : vals 5 = .bool false := hφ 5 (hd 5 (by decide))
      have c0 : W.cell? ⟨w2.heap.size + 1, 0, none⟩ = some (.int .i64 v0) := HeldL.cell hS mD (i := 0) rfl
      have c1 : W.cell? ⟨w2.heap.size + 1, 1, none⟩ = some (.int .i64 v1) := HeldL.cell hS mD (i := 1) rfl
      simp only [wpAt, List.getElem?_toArray, List.getElem?_cons_succ, List.getElem?_cons_zero, slotOf, frOf, Act.put]
      go_wp2_with fail
      first | exact ⟨trivial, rfl, trivial, hS⟩ | exact ⟨rfl, trivial, hS⟩
    · have k5 : vals 5 = .bool false := hφ 5 (hd 5 (by decide))
      have k6 : vals 6 = .agg #[.int .i64 u0, .int .i64 u1] := hφ 6 (hd 6 (by decide))
      have k7 : vals 7 = .agg #[.int .i64 v0, .int .i64 v1] := hφ 7 (hd 7 (by decide))
      simp only [wpAt, List.getElem?_toArray, List.getElem?_cons_succ, List.getElem?_cons_zero, slotOf, frOf, Act.put]
      go_wp2_with fail
      refine (inI_is _ _ _ _ icd _ hcd.out).mono ?_
      rintro e W' ⟨rfl, hb⟩
      go_wp2_with fail
      first | exact ⟨trivial, rfl, trivial, HeldL.next hb hS⟩ | exact ⟨rfl, trivial, HeldL.next hb hS⟩
    · have k5 : vals 5 = .bool false := hφ 5 (hd 5 (by decide))
      have c0 : W.cell? ⟨w2.heap.size, 0, none⟩ = some (.int .i64 u0) := HeldL.cell hS mC (i := 0) rfl
      have c1 : W.cell? ⟨w2.heap.size, 1, none⟩ = some (.int .i64 u1) := HeldL.cell hS mC (i := 1) rfl
      simp only [wpAt, List.getElem?_toArray, List.getElem?_cons_succ, List.getElem?_cons_zero, slotOf, frOf, Act.put]
      go_wp2_with fail
      first | exact ⟨trivial, rfl, trivial, hS⟩ | exact ⟨rfl, trivial, hS⟩
    · have k5 : vals 5 = .bool false := hφ 5 (hd 5 (by decide))
      have c0 : W.cell? ⟨w2.heap.size + 1, 0, none⟩ = some (.int .i64 v0) := HeldL.cell hS mD (i := 0) rfl
      have c1 : W.cell? ⟨w2.heap.size + 1, 1, none⟩ = some (.int .i64 v1) := HeldL.cell hS mD (i := 1) rfl
      simp only [wpAt, List.getElem?_toArray, List.getElem?_cons_succ, List.getElem?_cons_zero, slotOf, frOf, Act.put]
      go_wp2_with fail
      first | exact ⟨trivial, rfl, trivial, hS⟩ | exact ⟨rfl, trivial, hS⟩
    · have k5 : vals 5 = .bool false := hφ 5 (hd 5 (by decide))
      have k9 : vals 9 = .agg #[.int .i64 u0, .int .i64 u1] := hφ 9 (hd 9 (by decide))
      have k10 : vals 10 = .agg #[.int .i64 v0, .int .i64 v1] := hφ 10 (hd 10 (by decide))
      simp only [wpAt, List.getElem?_toArray, List.getElem?_cons_succ, List.getElem?_cons_zero, slotOf, frOf, Act.put]
      go_wp2_with fail
      refine (inS_is _ _ _ _ _ _ (by first | exact hab.out | exact hcd.out)).mono ?_
      rintro e W' ⟨rfl, hb⟩
      go_wp2_with fail
      first | exact ⟨trivial, rfl, trivial, HeldL.next hb hS⟩ | exact ⟨rfl, trivial, HeldL.next hb hS⟩
    · have k5 : vals 5 = .bool false := hφ 5 (hd 5 (by decide))
      have k8 : vals 8 = .bool icd := hφ 8 (hd 8 (by decide))
      have k11 : vals 11 = .bool icd := hφ 11 (hd 11 (by decide))
      simp only [wpAt, List.getElem?_toArray, List.getElem?_cons_succ, List.getElem?_cons_zero, slotOf, frOf, Act.put]
      go_wp2_with fail
      first | exact ⟨trivial, rfl, trivial, hS⟩ | exact ⟨rfl, trivial, hS⟩
    · have k5 : vals 5 = .bool false := hφ 5 (hd 5 (by decide))
      have k12 : vals 12 = .bool false := hφ 12 (hd 12 (by decide))
      refine wpAt_of rfl rfl ?_
      simp only [frOf, Act.put]
      go_wp2_with fail
      first | exact ⟨trivial, rfl, trivial, hS⟩ | exact ⟨rfl, trivial, hS⟩
  · intro L vals W hall hφ hS
    have k0 : vals 0 = .bool iab := hφ 0 (by decide)
    have k1 : vals 1 = .agg #[.int .i64 x0, .int .i64 x1] := hφ 1 (by decide)
    have k2 : vals 2 = .agg #[.int .i64 y0, .int .i64 y1] := hφ 2 (by decide)
    have k3 : vals 3 = .bool iab := hφ 3 (by decide)
    have k4 : vals 4 = .bool false := hφ 4 (by decide)
    have k5 : vals 5 = .bool false := hφ 5 (by decide)
    have k6 : vals 6 = .agg #[.int .i64 u0, .int .i64 u1] := hφ 6 (by decide)
    have k7 : vals 7 = .agg #[.int .i64 v0, .int .i64 v1] := hφ 7 (by decide)
    have k8 : vals 8 = .bool icd := hφ 8 (by decide)
    have k9 : vals 9 = .agg #[.int .i64 u0, .int .i64 u1] := hφ 9 (by decide)
    have k10 : vals 10 = .agg #[.int .i64 v0, .int .i64 v1] := hφ 10 (by decide)
    have k11 : vals 11 = .bool icd := hφ 11 (by decide)
    have k12 : vals 12 = .bool false := hφ 12 (by decide)
    have k13 : vals 13 = .bool false := hφ 13 (by decide)
    simp only [frOf, Act.put, List.setIfInBounds_toArray, List.set_cons_succ, List.set_cons_zero, k0, k1, k2, k3, k4, k5, k6, k7, k8, k9, k10, k11, k12, k13]
    clear k0 k1 k2 k3 k4 k5 k6 k7 k8 k9 k10 k11 k12 k13
    clear hall hφ hS0
    have c0 : W.cell? ⟨w1.heap.size, 0, none⟩ = some (.int .i64 x0) := hS.cell mA (i := 0) rfl
    have c1 : W.cell? ⟨w1.heap.size, 1, none⟩ = some (.int .i64 x1) := hS.cell mA (i := 1) rfl
    go_wp2_with fail
    refine (itvOkS _ _ _).mono ?_
    rintro e w5 ⟨rfl, b5⟩
    have hS5 := hS.next b5
    clear c0 c1 hS b5
    cases oka : itvOk x0 x1
    · obtain rfl : iab = false := by rw [← hab.out]; simp [itvIn, oka]
      go_wp2_with (first | (go_at_call 9; refine (owOkT _).mono ?_; rintro e w' ⟨rfl, rfl⟩))
      go_ret
      exact ⟨rfl, hS5.below⟩
    have c2 : w5.cell? ⟨w1.heap.size + 1, 0, none⟩ = some (.int .i64 y0) := hS5.cell mB (i := 0) rfl
    have c3 : w5.cell? ⟨w1.heap.size + 1, 1, none⟩ = some (.int .i64 y1) := hS5.cell mB (i := 1) rfl
    go_wp2_with fail
    refine (itvOkS _ _ _).mono ?_
    rintro e w6 ⟨rfl, b6⟩
    have hS6 := hS5.next b6
    clear c2 c3 hS5 b6
    cases okb : itvOk y0 y1
    · obtain rfl : iab = false := by rw [← hab.out]; simp [itvIn, okb]
      go_wp2_with (first | (go_at_call 9; refine (owOkT _).mono ?_; rintro e w' ⟨rfl, rfl⟩))
      go_ret
      exact ⟨rfl, hS6.below⟩
    have iAA : Hid (itvIn x0 x1 x0 x1 = true) := in_mk oka oka (by omega)
    have iAll : Hid (itvIn x0 x1 (-32768) 32767 = true) := in_mk oka (by decide) (by have := ok_all oka; omega)
    have hih := (in_has oka okb).symm.trans hab.out
    have hS0 : HeldL w Lb w6.drew := hS6.drew
    clear hS6
    cases hb0 : itvHas y0 y1 x0
    · rw [hb0] at hih
      obtain rfl : iab = false := by simpa using hih.symm
      have h0 : Hid (itvHas y0 y1 x0 = false) := hb0
      clear hb0 hih
      go_wp2_with fail
      refine region_inv3 [(0, 59), (1, 60), (2, 61), (3, 62), (4, 63), (5, 64), (6, 65), (7, 66), (8, 67), (9, 68), (10, 69), (11, 70), (12, 71), (13, 72), (14, 73), (15, 74), (16, 75), (17, 76), (18, 77), (19, 78), (20, 79), (21, 80), (22, 81), (23, 82)]
        (fun j v _ => match j with
          | 0 => Is (.bool false) v
          | 1 => Is (.agg #[.int .i64 y0, .int .i64 y1]) v
          | 2 => Is (.pointer (some ⟨w1.heap.size, 0, none⟩)) v
          | 3 => Is (.int .i64 x0) v
          | 4 => Is (.bool false) v
          | 5 => Is (.bool false) v
          | 6 => Is (undef) v
          | 7 => Is (undef) v
          | 8 => Is (undef) v
          | 9 => Is (undef) v
          | 10 => Is (.bool false) v
          | 11 => Is (.bool false) v
          | 12 => Is (.bool false) v
          | 13 => Is (.agg #[.int .i64 x0, .int .i64 x1]) v
          | 14 => Is (.agg #[.int .i64 x0, .int .i64 x1]) v
          | 15 => Is (.bool true) v
          | 16 => Is (.bool false) v
          | 17 => Is (.bool false) v
          | 18 => Is (.bool false) v
          | 19 => Is (.agg #[.int .i64 x0, .int .i64 x1]) v
          | 20 => Is (.agg #[.int .i64 (-32768), .int .i64 32767]) v
          | 21 => Is (.bool true) v
          | 22 => Is (.bool false) v
          | 23 => Is (.bool false) v
          | _ => True)
        (fun _ W => HeldL w Lb W) TT
        (by kernel_rfl) (by kernel_rfl) (by kernel_rfl) (by kernel_rfl) (by kernel_rfl) rfl hS0 (fun i j v W W' _ h _ => h) ?_ ?_
      · intro i L vals W hi' hφ hS hL hd
        have hi2 : i < 24 := hi'
        rcases (show i = 0 ∨ i = 1 ∨ i = 2 ∨ i = 3 ∨ i = 4 ∨ i = 5 ∨ i = 6 ∨ i = 7 ∨ i = 8 ∨ i = 9 ∨ i = 10 ∨ i = 11 ∨ i = 12 ∨ i = 13 ∨ i = 14 ∨ i = 15 ∨ i = 16 ∨ i = 17 ∨ i = 18 ∨ i = 19 ∨ i = 20 ∨ i = 21 ∨ i = 22 ∨ i = 23 by omega) with rfl | rfl | rfl | rfl | rfl | rfl | rfl | rfl | rfl | rfl | rfl | rfl | rfl | rfl | rfl | rfl | rfl | rfl | rfl | rfl | rfl | rfl | rfl | rfl
        · refine wpAt_of rfl rfl ?_
          simp only [frOf, Act.put]
          go_wp2_with fail
          first | exact ⟨trivial, rfl, trivial, hS⟩ | exact ⟨rfl, trivial, hS⟩
        · have c0 : W.cell? ⟨w1.heap.size + 1, 0, none⟩ = some (.int .i64 y0) := HeldL.cell hS mB (i := 0) rfl
          have c1 : W.cell? ⟨w1.heap.size + 1, 1, none⟩ = some (.int .i64 y1) := HeldL.cell hS mB (i := 1) rfl
          refine wpAt_of rfl rfl ?_
          simp only [frOf, Act.put]
          go_wp2_with fail
          first | exact ⟨trivial, rfl, trivial, hS⟩ | exact ⟨rfl, trivial, hS⟩
        · refine wpAt_of rfl rfl ?_
          simp only [frOf, Act.put]
          go_wp2_with fail
          first | exact ⟨trivial, rfl, trivial, hS⟩ | exact ⟨rfl, trivial, hS⟩
        · have k2 : vals 2 = .pointer (some ⟨w1.heap.size, 0, none⟩) := hφ 2 (hd 2 (by decide))
          have c0 : W.cell? ⟨w1.heap.size, 0, none⟩ = some (.int .i64 x0) := HeldL.cell hS mA (i := 0) rfl
          refine wpAt_of rfl rfl ?_
          simp only [frOf, Act.put]
          go_wp2_with fail
          first | exact ⟨trivial, rfl, trivial, hS⟩ | exact ⟨rfl, trivial, hS⟩
        · have k1 : vals 1 = .agg #[.int .i64 y0, .int .i64 y1] := hφ 1 (hd 1 (by decide))
          have k3 : vals 3 = .int .i64 x0 := hφ 3 (hd 3 (by decide))
          refine wpAt_of rfl rfl ?_
          simp only [frOf, Act.put]
          go_wp2_with fail
          refine (hasI_is _ _ _ _ _ (by first | exact h0.out | exact h1.out)).mono ?_
          rintro e W' ⟨rfl, hb⟩
          go_wp2_with fail
          first | exact ⟨trivial, rfl, trivial, HeldL.next hb hS⟩ | exact ⟨rfl, trivial, HeldL.next hb hS⟩
        · have k4 : vals 4 = .bool false := hφ 4 (hd 4 (by decide))
          refine wpAt_of rfl rfl ?_
          simp only [frOf, Act.put]
          go_wp2_with fail
          first | exact ⟨trivial, rfl, trivial, hS⟩ | exact ⟨rfl, trivial, hS⟩
        · have k5 : vals 5 = .bool false := hφ 5 (hd 5 (by decide))
          have c0 : W.cell? ⟨w1.heap.size + 1, 0, none⟩ = some (.int .i64 y0) := HeldL.cell hS mB (i := 0) rfl
          have c1 : W.cell? ⟨w1.heap.size + 1, 1, none⟩ = some (.int .i64 y1) := HeldL.cell hS mB (i := 1) rfl
          simp only [wpAt, List.getElem?_toArray, List.getElem?_cons_succ, List.getElem?_cons_zero, slotOf, frOf, Act.put]
          go_wp2_with fail
          first | exact ⟨trivial, rfl, trivial, hS⟩ | exact ⟨rfl, trivial, hS⟩
        · have k5 : vals 5 = .bool false := hφ 5 (hd 5 (by decide))
          simp only [wpAt, List.getElem?_toArray, List.getElem?_cons_succ, List.getElem?_cons_zero, slotOf, frOf, Act.put]
          go_wp2_with fail
          first | exact ⟨trivial, rfl, trivial, hS⟩ | exact ⟨rfl, trivial, hS⟩
        · have k5 : vals 5 = .bool false := hφ 5 (hd 5 (by decide))
          have k7 : vals 7 = undef := hφ 7 (hd 7 (by decide))
          simp only [wpAt, List.getElem?_toArray, List.getElem?_cons_succ, List.getElem?_cons_zero, slotOf, frOf, Act.put]
          go_wp2_with fail
          first | exact ⟨trivial, rfl, trivial, hS⟩ | exact ⟨rfl, trivial, hS⟩
        · have k5 : vals 5 = .bool false := hφ 5 (hd 5 (by decide))
          have k6 : vals 6 = undef := hφ 6 (hd 6 (by decide))
          have k8 : vals 8 = undef := hφ 8 (hd 8 (by decide))
          simp only [wpAt, List.getElem?_toArray, List.getElem?_cons_succ, List.getElem?_cons_zero, slotOf, frOf, Act.put]
          go_wp2_with fail
          first | exact ⟨trivial, rfl, trivial, hS⟩ | exact ⟨rfl, trivial, hS⟩
        · have k5 : vals 5 = .bool false := hφ 5 (hd 5 (by decide))
          have k9 : vals 9 = undef := hφ 9 (hd 9 (by decide))
          refine wpAt_of rfl rfl ?_
          simp only [frOf, Act.put]
          go_wp2_with fail
          first | exact ⟨trivial, rfl, trivial, hS⟩ | exact ⟨rfl, trivial, hS⟩
        · have k0 : vals 0 = .bool false := hφ 0 (hd 0 (by decide))
          have k10 : vals 10 = .bool false := hφ 10 (hd 10 (by decide))
          refine wpAt_of rfl rfl ?_
          simp only [frOf, Act.put]
          go_wp2_with fail
          first | exact ⟨trivial, rfl, trivial, hS⟩ | exact ⟨rfl, trivial, hS⟩
        · have k11 : vals 11 = .bool false := hφ 11 (hd 11 (by decide))
          refine wpAt_of rfl rfl ?_
          simp only [frOf, Act.put]
          go_wp2_with fail
          first | exact ⟨trivial, rfl, trivial, hS⟩ | exact ⟨rfl, trivial, hS⟩
        · have k12 : vals 12 = .bool false := hφ 12 (hd 12 (by decide))
          have c0 : W.cell? ⟨w1.heap.size, 0, none⟩ = some (.int .i64 x0) := HeldL.cell hS mA (i := 0) rfl
          have c1 : W.cell? ⟨w1.heap.size, 1, none⟩ = some (.int .i64 x1) := HeldL.cell hS mA (i := 1) rfl
          simp only [wpAt, List.getElem?_toArray, List.getElem?_cons_succ, List.getElem?_cons_zero, slotOf, frOf, Act.put]
          go_wp2_with fail
          first | exact ⟨trivial, rfl, trivial, hS⟩ | exact ⟨rfl, trivial, hS⟩
        · have k12 : vals 12 = .bool false := hφ 12 (hd 12 (by decide))
          have c0 : W.cell? ⟨w1.heap.size, 0, none⟩ = some (.int .i64 x0) := HeldL.cell hS mA (i := 0) rfl
          have c1 : W.cell? ⟨w1.heap.size, 1, none⟩ = some (.int .i64 x1) := HeldL.cell hS mA (i := 1) rfl
          simp only [wpAt, List.getElem?_toArray, List.getElem?_cons_succ, List.getElem?_cons_zero, slotOf, frOf, Act.put]
          go_wp2_with fail
          first | exact ⟨trivial, rfl, trivial, hS⟩ | exact ⟨rfl, trivial, hS⟩
        · have k12 : vals 12 = .bool false := hφ 12 (hd 12 (by decide))
          have k13 : vals 13 = .agg #[.int .i64 x0, .int .i64 x1] := hφ 13 (hd 13 (by decide))
          have k14 : vals 14 = .agg #[.int .i64 x0, .int .i64 x1] := hφ 14 (hd 14 (by decide))
          simp only [wpAt, List.getElem?_toArray, List.getElem?_cons_succ, List.getElem?_cons_zero, slotOf, frOf, Act.put]
          go_wp2_with fail
          refine (inI_is _ _ _ _ true _ (by first | exact iAA.out | exact iAll.out)).mono ?_
          rintro e W' ⟨rfl, hb⟩
          go_wp2_with fail
          first | exact ⟨trivial, rfl, trivial, HeldL.next hb hS⟩ | exact ⟨rfl, trivial, HeldL.next hb hS⟩
        · have k12 : vals 12 = .bool false := hφ 12 (hd 12 (by decide))
          have k15 : vals 15 = .bool true := hφ 15 (hd 15 (by decide))
          simp only [wpAt, List.getElem?_toArray, List.getElem?_cons_succ, List.getElem?_cons_zero, slotOf, frOf, Act.put]
          go_wp2_with fail
          first | exact ⟨trivial, rfl, trivial, hS⟩ | exact ⟨rfl, trivial, hS⟩
        · have k12 : vals 12 = .bool false := hφ 12 (hd 12 (by decide))
          have k16 : vals 16 = .bool false := hφ 16 (hd 16 (by decide))
          refine wpAt_of rfl rfl ?_
          simp only [frOf, Act.put]
          go_wp2_with fail
          first | exact ⟨trivial, rfl, trivial, hS⟩ | exact ⟨rfl, trivial, hS⟩
        · have k17 : vals 17 = .bool false := hφ 17 (hd 17 (by decide))
          refine wpAt_of rfl rfl ?_
          simp only [frOf, Act.put]
          go_wp2_with fail
          first | exact ⟨trivial, rfl, trivial, hS⟩ | exact ⟨rfl, trivial, hS⟩
        · have k18 : vals 18 = .bool false := hφ 18 (hd 18 (by decide))
          have c0 : W.cell? ⟨w1.heap.size, 0, none⟩ = some (.int .i64 x0) := HeldL.cell hS mA (i := 0) rfl
          have c1 : W.cell? ⟨w1.heap.size, 1, none⟩ = some (.int .i64 x1) := HeldL.cell hS mA (i := 1) rfl
          simp only [wpAt, List.getElem?_toArray, List.getElem?_cons_succ, List.getElem?_cons_zero, slotOf, frOf, Act.put]
          go_wp2_with fail
          first | exact ⟨trivial, rfl, trivial, hS⟩ | exact ⟨rfl, trivial, hS⟩
        · have k18 : vals 18 = .bool false := hφ 18 (hd 18 (by decide))
          simp only [wpAt, List.getElem?_toArray, List.getElem?_cons_succ, List.getElem?_cons_zero, slotOf, frOf, Act.put]
          go_wp2_with fail
          refine (allI_is _).mono ?_
          rintro e W' ⟨rfl, hb⟩
          go_wp2_with fail
          first | exact ⟨trivial, rfl, trivial, HeldL.next hb hS⟩ | exact ⟨rfl, trivial, HeldL.next hb hS⟩
        · have k18 : vals 18 = .bool false := hφ 18 (hd 18 (by decide))
          have k19 : vals 19 = .agg #[.int .i64 x0, .int .i64 x1] := hφ 19 (hd 19 (by decide))
          have k20 : vals 20 = .agg #[.int .i64 (-32768), .int .i64 32767] := hφ 20 (hd 20 (by decide))
          simp only [wpAt, List.getElem?_toArray, List.getElem?_cons_succ, List.getElem?_cons_zero, slotOf, frOf, Act.put]
          go_wp2_with fail
          refine (inI_is _ _ _ _ true _ (by first | exact iAA.out | exact iAll.out)).mono ?_
          rintro e W' ⟨rfl, hb⟩
          go_wp2_with fail
          first | exact ⟨trivial, rfl, trivial, HeldL.next hb hS⟩ | exact ⟨rfl, trivial, HeldL.next hb hS⟩
        · have k18 : vals 18 = .bool false := hφ 18 (hd 18 (by decide))
          have k21 : vals 21 = .bool true := hφ 21 (hd 21 (by decide))
          simp only [wpAt, List.getElem?_toArray, List.getElem?_cons_succ, List.getElem?_cons_zero, slotOf, frOf, Act.put]
          go_wp2_with fail
          first | exact ⟨trivial, rfl, trivial, hS⟩ | exact ⟨rfl, trivial, hS⟩
        · have k18 : vals 18 = .bool false := hφ 18 (hd 18 (by decide))
          have k22 : vals 22 = .bool false := hφ 22 (hd 22 (by decide))
          refine wpAt_of rfl rfl ?_
          simp only [frOf, Act.put]
          go_wp2_with fail
          first | exact ⟨trivial, rfl, trivial, hS⟩ | exact ⟨rfl, trivial, hS⟩
      · intro L vals W hall hφ hS
        have k0 : vals 0 = .bool false := hφ 0 (by decide)
        have k1 : vals 1 = .agg #[.int .i64 y0, .int .i64 y1] := hφ 1 (by decide)
        have k2 : vals 2 = .pointer (some ⟨w1.heap.size, 0, none⟩) := hφ 2 (by decide)
        have k3 : vals 3 = .int .i64 x0 := hφ 3 (by decide)
        have k4 : vals 4 = .bool false := hφ 4 (by decide)
        have k5 : vals 5 = .bool false := hφ 5 (by decide)
        have k6 : vals 6 = undef := hφ 6 (by decide)
        have k7 : vals 7 = undef := hφ 7 (by decide)
        have k8 : vals 8 = undef := hφ 8 (by decide)
        have k9 : vals 9 = undef := hφ 9 (by decide)
        have k10 : vals 10 = .bool false := hφ 10 (by decide)
        have k11 : vals 11 = .bool false := hφ 11 (by decide)
        have k12 : vals 12 = .bool false := hφ 12 (by decide)
        have k13 : vals 13 = .agg #[.int .i64 x0, .int .i64 x1] := hφ 13 (by decide)
        have k14 : vals 14 = .agg #[.int .i64 x0, .int .i64 x1] := hφ 14 (by decide)
        have k15 : vals 15 = .bool true := hφ 15 (by decide)
        have k16 : vals 16 = .bool false := hφ 16 (by decide)
        have k17 : vals 17 = .bool false := hφ 17 (by decide)
        have k18 : vals 18 = .bool false := hφ 18 (by decide)
        have k19 : vals 19 = .agg #[.int .i64 x0, .int .i64 x1] := hφ 19 (by decide)
        have k20 : vals 20 = .agg #[.int .i64 (-32768), .int .i64 32767] := hφ 20 (by decide)
        have k21 : vals 21 = .bool true := hφ 21 (by decide)
        have k22 : vals 22 = .bool false := hφ 22 (by decide)
        have k23 : vals 23 = .bool false := hφ 23 (by decide)
        simp only [frOf, Act.put, List.setIfInBounds_toArray, List.set_cons_succ, List.set_cons_zero, k0, k1, k2, k3, k4, k5, k6, k7, k8, k9, k10, k11, k12, k13, k14, k15, k16, k17, k18, k19, k20, k21, k22, k23]
        clear k0 k1 k2 k3 k4 k5 k6 k7 k8 k9 k10 k11 k12 k13 k14 k15 k16 k17 k18 k19 k20 k21 k22 k23
        clear hall hφ hS0
        have c2 : W.cell? ⟨w1.heap.size + 1, 0, none⟩ = some (.int .i64 y0) := hS.cell mB (i := 0) rfl
        have c3 : W.cell? ⟨w1.heap.size + 1, 1, none⟩ = some (.int .i64 y1) := hS.cell mB (i := 1) rfl
        have c4 : W.cell? ⟨w2.heap.size + 1, 0, none⟩ = some (.int .i64 v0) := hS.cell mD (i := 0) rfl
        have c5 : W.cell? ⟨w2.heap.size + 1, 1, none⟩ = some (.int .i64 v1) := hS.cell mD (i := 1) rfl
        go_wp2_with fail
        refine (joinI _ _ _ _ _).mono ?_
        rintro e w7 ⟨rfl, b7⟩
        have hS7 := hS.next b7
        have hS8 := hS7.alloc (.cells #[.int .i64 (joinLo y0 y1 v0 v1), .int .i64 (joinHi y0 y1 v0 v1)] 29)
        clear c2 c3 c4 c5 b7
        go_wp2_with fail
        go_ret
        exact ⟨rfl, hS8.below⟩
    · rw [hb0, Bool.true_and] at hih
      have h0 : Hid (itvHas y0 y1 x0 = true) := hb0
      have h1 : Hid (itvHas y0 y1 x1 = iab) := hih
      clear hb0 hih
      go_wp2_with fail
      refine region_inv3 [(0, 59), (1, 60), (2, 61), (3, 62), (4, 63), (5, 64), (6, 65), (7, 66), (8, 67), (9, 68), (10, 69), (11, 70), (12, 71), (13, 72), (14, 73), (15, 74), (16, 75), (17, 76), (18, 77), (19, 78), (20, 79), (21, 80), (22, 81), (23, 82)]
        (fun j v _ => match j with
          | 0 => Is (.bool iab) v
          | 1 => Is (.agg #[.int .i64 y0, .int .i64 y1]) v
          | 2 => Is (.pointer (some ⟨w1.heap.size, 0, none⟩)) v
          | 3 => Is (.int .i64 x0) v
          | 4 => Is (.bool true) v
          | 5 => Is (.bool true) v
          | 6 => Is (.agg #[.int .i64 y0, .int .i64 y1]) v
          | 7 => Is (.pointer (some ⟨w1.heap.size, 1, none⟩)) v
          | 8 => Is (.int .i64 x1) v
          | 9 => Is (.bool iab) v
          | 10 => Is (.bool iab) v
          | 11 => Is (.bool false) v
          | 12 => Is (.bool false) v
          | 13 => Is (.agg #[.int .i64 x0, .int .i64 x1]) v
          | 14 => Is (.agg #[.int .i64 x0, .int .i64 x1]) v
          | 15 => Is (.bool true) v
          | 16 => Is (.bool false) v
          | 17 => Is (.bool false) v
          | 18 => Is (.bool false) v
          | 19 => Is (.agg #[.int .i64 x0, .int .i64 x1]) v
          | 20 => Is (.agg #[.int .i64 (-32768), .int .i64 32767]) v
          | 21 => Is (.bool true) v
          | 22 => Is (.bool false) v
          | 23 => Is (.bool false) v
          | _ => True)
        (fun _ W => HeldL w Lb W) TT
        (by kernel_rfl) (by kernel_rfl) (by kernel_rfl) (by kernel_rfl) (by kernel_rfl) rfl hS0 (fun i j v W W' _ h _ => h) ?_ ?_
      · intro i L vals W hi' hφ hS hL hd
        have hi2 : i < 24 := hi'
        rcases (show i = 0 ∨ i = 1 ∨ i = 2 ∨ i = 3 ∨ i = 4 ∨ i = 5 ∨ i = 6 ∨ i = 7 ∨ i = 8 ∨ i = 9 ∨ i = 10 ∨ i = 11 ∨ i = 12 ∨ i = 13 ∨ i = 14 ∨ i = 15 ∨ i = 16 ∨ i = 17 ∨ i = 18 ∨ i = 19 ∨ i = 20 ∨ i = 21 ∨ i = 22 ∨ i = 23 by omega) with rfl | rfl | rfl | rfl | rfl | rfl | rfl | rfl | rfl | rfl | rfl | rfl | rfl | rfl | rfl | rfl | rfl | rfl | rfl | rfl | rfl | rfl | rfl | rfl
        · refine wpAt_of rfl rfl ?_
          simp only [frOf, Act.put]
          go_wp2_with fail
          first | exact ⟨trivial, rfl, trivial, hS⟩ | exact ⟨rfl, trivial, hS⟩
        · have c0 : W.cell? ⟨w1.heap.size + 1, 0, none⟩ = some (.int .i64 y0) := HeldL.cell hS mB (i := 0) rfl
          have c1 : W.cell? ⟨w1.heap.size + 1, 1, none⟩ = some (.int .i64 y1) := HeldL.cell hS mB (i := 1) rfl
          refine wpAt_of rfl rfl ?_
          simp only [frOf, Act.put]
          go_wp2_with fail
          first | exact ⟨trivial, rfl, trivial, hS⟩ | exact ⟨rfl, trivial, hS⟩
        · refine wpAt_of rfl rfl ?_
          simp only [frOf, Act.put]
          go_wp2_with fail
          first | exact ⟨trivial, rfl, trivial, hS⟩ | exact ⟨rfl, trivial, hS⟩
        · have k2 : vals 2 = .pointer (some ⟨w1.heap.size, 0, none⟩) := hφ 2 (hd 2 (by decide))
          have c0 : W.cell? ⟨w1.heap.size, 0, none⟩ = some (.int .i64 x0) := HeldL.cell hS mA (i := 0) rfl
          refine wpAt_of rfl rfl ?_
          simp only [frOf, Act.put]
          go_wp2_with fail
          first | exact ⟨trivial, rfl, trivial, hS⟩ | exact ⟨rfl, trivial, hS⟩
        · have k1 : vals 1 = .agg #[.int .i64 y0, .int .i64 y1] := hφ 1 (hd 1 (by decide))
          have k3 : vals 3 = .int .i64 x0 := hφ 3 (hd 3 (by decide))
          refine wpAt_of rfl rfl ?_
          simp only [frOf, Act.put]
          go_wp2_with fail
          refine (hasI_is _ _ _ _ _ (by first | exact h0.out | exact h1.out)).mono ?_
          rintro e W' ⟨rfl, hb⟩
          go_wp2_with fail
          first | exact ⟨trivial, rfl, trivial, HeldL.next hb hS⟩ | exact ⟨rfl, trivial, HeldL.next hb hS⟩
        · have k4 : vals 4 = .bool true := hφ 4 (hd 4 (by decide))
          refine wpAt_of rfl rfl ?_
          simp only [frOf, Act.put]
          go_wp2_with fail
          first | exact ⟨trivial, rfl, trivial, hS⟩ | exact ⟨rfl, trivial, hS⟩
        · have k5 : vals 5 = .bool true := hφ 5 (hd 5 (by decide))
          have c0 : W.cell? ⟨w1.heap.size + 1, 0, none⟩ = some (.int .i64 y0) := HeldL.cell hS mB (i := 0) rfl
          have c1 : W.cell? ⟨w1.heap.size + 1, 1, none⟩ = some (.int .i64 y1) := HeldL.cell hS mB (i := 1) rfl
          simp only [wpAt, List.getElem?_toArray, List.getElem?_cons_succ, List.getElem?_cons_zero, slotOf, frOf, Act.put]
          go_wp2_with fail
          first | exact ⟨trivial, rfl, trivial, hS⟩ | exact ⟨rfl, trivial, hS⟩
        · have k5 : vals 5 = .bool true := hφ 5 (hd 5 (by decide))
          simp only [wpAt, List.getElem?_toArray, List.getElem?_cons_succ, List.getElem?_cons_zero, slotOf, frOf, Act.put]
          go_wp2_with fail
          first | exact ⟨trivial, rfl, trivial, hS⟩ | exact ⟨rfl, trivial, hS⟩
        · have k5 : vals 5 = .bool true := hφ 5 (hd 5 (by decide))
          have k7 : vals 7 = .pointer (some ⟨w1.heap.size, 1, none⟩) := hφ 7 (hd 7 (by decide))
          have c1 : W.cell? ⟨w1.heap.size, 1, none⟩ = some (.int .i64 x1) := HeldL.cell hS mA (i := 1) rfl
          simp only [wpAt, List.getElem?_toArray, List.getElem?_cons_succ, List.getElem?_cons_zero, slotOf, frOf, Act.put]
          go_wp2_with fail
          first | exact ⟨trivial, rfl, trivial, hS⟩ | exact ⟨rfl, trivial, hS⟩
        · have k5 : vals 5 = .bool true := hφ 5 (hd 5 (by decide))
          have k6 : vals 6 = .agg #[.int .i64 y0, .int .i64 y1] := hφ 6 (hd 6 (by decide))
          have k8 : vals 8 = .int .i64 x1 := hφ 8 (hd 8 (by decide))
          simp only [wpAt, List.getElem?_toArray, List.getElem?_cons_succ, List.getElem?_cons_zero, slotOf, frOf, Act.put]
          go_wp2_with fail
          refine (hasI_is _ _ _ _ _ (by first | exact h0.out | exact h1.out)).mono ?_
          rintro e W' ⟨rfl, hb⟩
          go_wp2_with fail
          first | exact ⟨trivial, rfl, trivial, HeldL.next hb hS⟩ | exact ⟨rfl, trivial, HeldL.next hb hS⟩
        · have k5 : vals 5 = .bool true := hφ 5 (hd 5 (by decide))
          have k9 : vals 9 = .bool iab := hφ 9 (hd 9 (by decide))
          refine wpAt_of rfl rfl ?_
          simp only [frOf, Act.put]
          go_wp2_with fail
          first | exact ⟨trivial, rfl, trivial, hS⟩ | exact ⟨rfl, trivial, hS⟩
        · have k0 : vals 0 = .bool iab := hφ 0 (hd 0 (by decide))
          have k10 : vals 10 = .bool iab := hφ 10 (hd 10 (by decide))
          refine wpAt_of rfl rfl ?_
          simp only [frOf, Act.put]
          go_wp2_with fail
          first | exact ⟨trivial, rfl, trivial, hS⟩ | exact ⟨rfl, trivial, hS⟩
        · have k11 : vals 11 = .bool false := hφ 11 (hd 11 (by decide))
          refine wpAt_of rfl rfl ?_
          simp only [frOf, Act.put]
          go_wp2_with fail
          first | exact ⟨trivial, rfl, trivial, hS⟩ | exact ⟨rfl, trivial, hS⟩
        · have k12 : vals 12 = .bool false := hφ 12 (hd 12 (by decide))
          have c0 : W.cell? ⟨w1.heap.size, 0, none⟩ = some (.int .i64 x0) := HeldL.cell hS mA (i := 0) rfl
          have c1 : W.cell? ⟨w1.heap.size, 1, none⟩ = some (.int .i64 x1) := HeldL.cell hS mA (i := 1) rfl
          simp only [wpAt, List.getElem?_toArray, List.getElem?_cons_succ, List.getElem?_cons_zero, slotOf, frOf, Act.put]
          go_wp2_with fail
          first | exact ⟨trivial, rfl, trivial, hS⟩ | exact ⟨rfl, trivial, hS⟩
        · have k12 : vals 12 = .bool false := hφ 12 (hd 12 (by decide))
          have c0 : W.cell? ⟨w1.heap.size, 0, none⟩ = some (.int .i64 x0) := HeldL.cell hS mA (i := 0) rfl
          have c1 : W.cell? ⟨w1.heap.size, 1, none⟩ = some (.int .i64 x1) := HeldL.cell hS mA (i := 1) rfl
          simp only [wpAt, List.getElem?_toArray, List.getElem?_cons_succ, List.getElem?_cons_zero, slotOf, frOf, Act.put]
          go_wp2_with fail
          first | exact ⟨trivial, rfl, trivial, hS⟩ | exact ⟨rfl, trivial, hS⟩
        · have k12 : vals 12 = .bool false := hφ 12 (hd 12 (by decide))
          have k13 : vals 13 = .agg #[.int .i64 x0, .int .i64 x1] := hφ 13 (hd 13 (by decide))
          have k14 : vals 14 = .agg #[.int .i64 x0, .int .i64 x1] := hφ 14 (hd 14 (by decide))
          simp only [wpAt, List.getElem?_toArray, List.getElem?_cons_succ, List.getElem?_cons_zero, slotOf, frOf, Act.put]
          go_wp2_with fail
          refine (inI_is _ _ _ _ true _ (by first | exact iAA.out | exact iAll.out)).mono ?_
          rintro e W' ⟨rfl, hb⟩
          go_wp2_with fail
          first | exact ⟨trivial, rfl, trivial, HeldL.next hb hS⟩ | exact ⟨rfl, trivial, HeldL.next hb hS⟩
        · have k12 : vals 12 = .bool false := hφ 12 (hd 12 (by decide))
          have k15 : vals 15 = .bool true := hφ 15 (hd 15 (by decide))
          simp only [wpAt, List.getElem?_toArray, List.getElem?_cons_succ, List.getElem?_cons_zero, slotOf, frOf, Act.put]
          go_wp2_with fail
          first | exact ⟨trivial, rfl, trivial, hS⟩ | exact ⟨rfl, trivial, hS⟩
        · have k12 : vals 12 = .bool false := hφ 12 (hd 12 (by decide))
          have k16 : vals 16 = .bool false := hφ 16 (hd 16 (by decide))
          refine wpAt_of rfl rfl ?_
          simp only [frOf, Act.put]
          go_wp2_with fail
          first | exact ⟨trivial, rfl, trivial, hS⟩ | exact ⟨rfl, trivial, hS⟩
        · have k17 : vals 17 = .bool false := hφ 17 (hd 17 (by decide))
          refine wpAt_of rfl rfl ?_
          simp only [frOf, Act.put]
          go_wp2_with fail
          first | exact ⟨trivial, rfl, trivial, hS⟩ | exact ⟨rfl, trivial, hS⟩
        · have k18 : vals 18 = .bool false := hφ 18 (hd 18 (by decide))
          have c0 : W.cell? ⟨w1.heap.size, 0, none⟩ = some (.int .i64 x0) := HeldL.cell hS mA (i := 0) rfl
          have c1 : W.cell? ⟨w1.heap.size, 1, none⟩ = some (.int .i64 x1) := HeldL.cell hS mA (i := 1) rfl
          simp only [wpAt, List.getElem?_toArray, List.getElem?_cons_succ, List.getElem?_cons_zero, slotOf, frOf, Act.put]
          go_wp2_with fail
          first | exact ⟨trivial, rfl, trivial, hS⟩ | exact ⟨rfl, trivial, hS⟩
        · have k18 : vals 18 = .bool false := hφ 18 (hd 18 (by decide))
          simp only [wpAt, List.getElem?_toArray, List.getElem?_cons_succ, List.getElem?_cons_zero, slotOf, frOf, Act.put]
          go_wp2_with fail
          refine (allI_is _).mono ?_
          rintro e W' ⟨rfl, hb⟩
          go_wp2_with fail
          first | exact ⟨trivial, rfl, trivial, HeldL.next hb hS⟩ | exact ⟨rfl, trivial, HeldL.next hb hS⟩
        · have k18 : vals 18 = .bool false := hφ 18 (hd 18 (by decide))
          have k19 : vals 19 = .agg #[.int .i64 x0, .int .i64 x1] := hφ 19 (hd 19 (by decide))
          have k20 : vals 20 = .agg #[.int .i64 (-32768), .int .i64 32767] := hφ 20 (hd 20 (by decide))
          simp only [wpAt, List.getElem?_toArray, List.getElem?_cons_succ, List.getElem?_cons_zero, slotOf, frOf, Act.put]
          go_wp2_with fail
          refine (inI_is _ _ _ _ true _ (by first | exact iAA.out | exact iAll.out)).mono ?_
          rintro e W' ⟨rfl, hb⟩
          go_wp2_with fail
          first | exact ⟨trivial, rfl, trivial, HeldL.next hb hS⟩ | exact ⟨rfl, trivial, HeldL.next hb hS⟩
        · have k18 : vals 18 = .bool false := hφ 18 (hd 18 (by decide))
          have k21 : vals 21 = .bool true := hφ 21 (hd 21 (by decide))
          simp only [wpAt, List.getElem?_toArray, List.getElem?_cons_succ, List.getElem?_cons_zero, slotOf, frOf, Act.put]
          go_wp2_with fail
          first | exact ⟨trivial, rfl, trivial, hS⟩ | exact ⟨rfl, trivial, hS⟩
        · have k18 : vals 18 = .bool false := hφ 18 (hd 18 (by decide))
          have k22 : vals 22 = .bool false := hφ 22 (hd 22 (by decide))
          refine wpAt_of rfl rfl ?_
          simp only [frOf, Act.put]
          go_wp2_with fail
          first | exact ⟨trivial, rfl, trivial, hS⟩ | exact ⟨rfl, trivial, hS⟩
      · intro L vals W hall hφ hS
        have k0 : vals 0 = .bool iab := hφ 0 (by decide)
        have k1 : vals 1 = .agg #[.int .i64 y0, .int .i64 y1] := hφ 1 (by decide)
        have k2 : vals 2 = .pointer (some ⟨w1.heap.size, 0, none⟩) := hφ 2 (by decide)
        have k3 : vals 3 = .int .i64 x0 := hφ 3 (by decide)
        have k4 : vals 4 = .bool true := hφ 4 (by decide)
        have k5 : vals 5 = .bool true := hφ 5 (by decide)
        have k6 : vals 6 = .agg #[.int .i64 y0, .int .i64 y1] := hφ 6 (by decide)
        have k7 : vals 7 = .pointer (some ⟨w1.heap.size, 1, none⟩) := hφ 7 (by decide)
        have k8 : vals 8 = .int .i64 x1 := hφ 8 (by decide)
        have k9 : vals 9 = .bool iab := hφ 9 (by decide)
        have k10 : vals 10 = .bool iab := hφ 10 (by decide)
        have k11 : vals 11 = .bool false := hφ 11 (by decide)
        have k12 : vals 12 = .bool false := hφ 12 (by decide)
        have k13 : vals 13 = .agg #[.int .i64 x0, .int .i64 x1] := hφ 13 (by decide)
        have k14 : vals 14 = .agg #[.int .i64 x0, .int .i64 x1] := hφ 14 (by decide)
        have k15 : vals 15 = .bool true := hφ 15 (by decide)
        have k16 : vals 16 = .bool false := hφ 16 (by decide)
        have k17 : vals 17 = .bool false := hφ 17 (by decide)
        have k18 : vals 18 = .bool false := hφ 18 (by decide)
        have k19 : vals 19 = .agg #[.int .i64 x0, .int .i64 x1] := hφ 19 (by decide)
        have k20 : vals 20 = .agg #[.int .i64 (-32768), .int .i64 32767] := hφ 20 (by decide)
        have k21 : vals 21 = .bool true := hφ 21 (by decide)
        have k22 : vals 22 = .bool false := hφ 22 (by decide)
        have k23 : vals 23 = .bool false := hφ 23 (by decide)
        simp only [frOf, Act.put, List.setIfInBounds_toArray, List.set_cons_succ, List.set_cons_zero, k0, k1, k2, k3, k4, k5, k6, k7, k8, k9, k10, k11, k12, k13, k14, k15, k16, k17, k18, k19, k20, k21, k22, k23]
        clear k0 k1 k2 k3 k4 k5 k6 k7 k8 k9 k10 k11 k12 k13 k14 k15 k16 k17 k18 k19 k20 k21 k22 k23
        clear hall hφ hS0
        cases iab
        · have c2 : W.cell? ⟨w1.heap.size + 1, 0, none⟩ = some (.int .i64 y0) := hS.cell mB (i := 0) rfl
          have c3 : W.cell? ⟨w1.heap.size + 1, 1, none⟩ = some (.int .i64 y1) := hS.cell mB (i := 1) rfl
          have c4 : W.cell? ⟨w2.heap.size + 1, 0, none⟩ = some (.int .i64 v0) := hS.cell mD (i := 0) rfl
          have c5 : W.cell? ⟨w2.heap.size + 1, 1, none⟩ = some (.int .i64 v1) := hS.cell mD (i := 1) rfl
          go_wp2_with fail
          refine (joinI _ _ _ _ _).mono ?_
          rintro e w7 ⟨rfl, b7⟩
          have hS7 := hS.next b7
          have hS8 := hS7.alloc (.cells #[.int .i64 (joinLo y0 y1 v0 v1), .int .i64 (joinHi y0 y1 v0 v1)] 29)
          clear c2 c3 c4 c5 b7
          go_wp2_with fail
          go_ret
          exact ⟨rfl, hS8.below⟩
        have c0 : W.cell? ⟨w1.heap.size, 0, none⟩ = some (.int .i64 x0) := hS.cell mA (i := 0) rfl
        have c1 : W.cell? ⟨w1.heap.size, 1, none⟩ = some (.int .i64 x1) := hS.cell mA (i := 1) rfl
        have c2 : W.cell? ⟨w1.heap.size + 1, 0, none⟩ = some (.int .i64 y0) := hS.cell mB (i := 0) rfl
        have c3 : W.cell? ⟨w1.heap.size + 1, 1, none⟩ = some (.int .i64 y1) := hS.cell mB (i := 1) rfl
        go_wp2_with fail
        refine (itvInI _ _ _ _ _).mono ?_
        rintro e w7 ⟨rfl, b7⟩
        have hS7 := hS.next b7
        clear c0 c1 c2 c3 b7 hS
        cases iba : itvIn y0 y1 x0 x1
        · have c2 : w7.cell? ⟨w1.heap.size + 1, 0, none⟩ = some (.int .i64 y0) := hS7.cell mB (i := 0) rfl
          have c3 : w7.cell? ⟨w1.heap.size + 1, 1, none⟩ = some (.int .i64 y1) := hS7.cell mB (i := 1) rfl
          have c4 : w7.cell? ⟨w2.heap.size + 1, 0, none⟩ = some (.int .i64 v0) := hS7.cell mD (i := 0) rfl
          have c5 : w7.cell? ⟨w2.heap.size + 1, 1, none⟩ = some (.int .i64 v1) := hS7.cell mD (i := 1) rfl
          go_wp2_with fail
          refine (joinI _ _ _ _ _).mono ?_
          rintro e w8 ⟨rfl, b8⟩
          have H9 := HeldL.new (t := 29) (x := .int .i64 (joinLo y0 y1 v0 v1)) (y := .int .i64 (joinHi y0 y1 v0 v1)) (hS7.next b8)
          clear c2 c3 c4 c5 b8 hS7
          have d4 : (w8.alloc (.cells #[.int .i64 (joinLo y0 y1 v0 v1), .int .i64 (joinHi y0 y1 v0 v1)] 29)).cell? ⟨w2.heap.size + 1, 0, none⟩ = some (.int .i64 v0) := H9.cell (List.mem_cons_of_mem _ mD) (i := 0) rfl
          have d5 : (w8.alloc (.cells #[.int .i64 (joinLo y0 y1 v0 v1), .int .i64 (joinHi y0 y1 v0 v1)] 29)).cell? ⟨w2.heap.size + 1, 1, none⟩ = some (.int .i64 v1) := H9.cell (List.mem_cons_of_mem _ mD) (i := 1) rfl
          go_wp2_with fail
          refine (itvOkS _ _ _).mono ?_
          rintro e w9 ⟨rfl, b9⟩
          have H10 := H9.next b9
          clear d4 d5 b9 H9
          cases okd : itvOk v0 v1
          · go_wp2_with fail
            go_ret
            exact ⟨rfl, H10.below⟩
          have ij := in_trans_join hab.out okd
          have f0 : w9.cell? ⟨w1.heap.size, 0, none⟩ = some (.int .i64 x0) := H10.cell (List.mem_cons_of_mem _ mA) (i := 0) rfl
          have f1 : w9.cell? ⟨w1.heap.size, 1, none⟩ = some (.int .i64 x1) := H10.cell (List.mem_cons_of_mem _ mA) (i := 1) rfl
          have f2 : w9.cell? ⟨w8.heap.size, 0, none⟩ = some (.int .i64 (joinLo y0 y1 v0 v1)) := H10.cell List.mem_cons_self (i := 0) rfl
          have f3 : w9.cell? ⟨w8.heap.size, 1, none⟩ = some (.int .i64 (joinHi y0 y1 v0 v1)) := H10.cell List.mem_cons_self (i := 1) rfl
          go_wp2_with fail
          refine (inI_is _ _ _ _ true _ ij).mono ?_
          rintro e w10 ⟨rfl, b10⟩
          have H11 := H10.next b10
          go_wp2_with fail
          go_ret
          exact ⟨rfl, H11.below⟩
        · obtain ⟨ex, ey⟩ := in_both hab.out iba
          subst ex ey
          have c2 : w7.cell? ⟨w1.heap.size + 1, 0, none⟩ = some (.int .i64 x0) := hS7.cell mB (i := 0) rfl
          have c3 : w7.cell? ⟨w1.heap.size + 1, 1, none⟩ = some (.int .i64 x1) := hS7.cell mB (i := 1) rfl
          have c4 : w7.cell? ⟨w2.heap.size + 1, 0, none⟩ = some (.int .i64 v0) := hS7.cell mD (i := 0) rfl
          have c5 : w7.cell? ⟨w2.heap.size + 1, 1, none⟩ = some (.int .i64 v1) := hS7.cell mD (i := 1) rfl
          have c0 : w7.cell? ⟨w1.heap.size, 0, none⟩ = some (.int .i64 x0) := hS7.cell mA (i := 0) rfl
          have c1 : w7.cell? ⟨w1.heap.size, 1, none⟩ = some (.int .i64 x1) := hS7.cell mA (i := 1) rfl
          go_wp2_with fail
          refine (joinI _ _ _ _ _).mono ?_
          rintro e w8 ⟨rfl, b8⟩
          have H9 := HeldL.new (t := 29) (x := .int .i64 (joinLo x0 x1 v0 v1)) (y := .int .i64 (joinHi x0 x1 v0 v1)) (hS7.next b8)
          clear c0 c1 c2 c3 c4 c5 b8 hS7
          have d4 : (w8.alloc (.cells #[.int .i64 (joinLo x0 x1 v0 v1), .int .i64 (joinHi x0 x1 v0 v1)] 29)).cell? ⟨w2.heap.size + 1, 0, none⟩ = some (.int .i64 v0) := H9.cell (List.mem_cons_of_mem _ mD) (i := 0) rfl
          have d5 : (w8.alloc (.cells #[.int .i64 (joinLo x0 x1 v0 v1), .int .i64 (joinHi x0 x1 v0 v1)] 29)).cell? ⟨w2.heap.size + 1, 1, none⟩ = some (.int .i64 v1) := H9.cell (List.mem_cons_of_mem _ mD) (i := 1) rfl
          go_wp2_with fail
          refine (itvOkS _ _ _).mono ?_
          rintro e w9 ⟨rfl, b9⟩
          have H10 := H9.next b9
          clear d4 d5 b9 H9
          cases okd : itvOk v0 v1
          · go_wp2_with fail
            go_ret
            exact ⟨rfl, H10.below⟩
          have ij := in_trans_join hab.out okd
          have f0 : w9.cell? ⟨w1.heap.size, 0, none⟩ = some (.int .i64 x0) := H10.cell (List.mem_cons_of_mem _ mA) (i := 0) rfl
          have f1 : w9.cell? ⟨w1.heap.size, 1, none⟩ = some (.int .i64 x1) := H10.cell (List.mem_cons_of_mem _ mA) (i := 1) rfl
          have f2 : w9.cell? ⟨w8.heap.size, 0, none⟩ = some (.int .i64 (joinLo x0 x1 v0 v1)) := H10.cell List.mem_cons_self (i := 0) rfl
          have f3 : w9.cell? ⟨w8.heap.size, 1, none⟩ = some (.int .i64 (joinHi x0 x1 v0 v1)) := H10.cell List.mem_cons_self (i := 1) rfl
          go_wp2_with fail
          refine (inI_is _ _ _ _ true _ ij).mono ?_
          rintro e w10 ⟨rfl, b10⟩
          have H11 := H10.next b10
          go_wp2_with fail
          go_ret
          exact ⟨rfl, H11.below⟩

theorem contract (H : Type) (enc : TypeId × Value → H) (W : World) (base : Nat) (args : Array Value) (ds gs : List (DataW H)) (before : List MemPlace)
    (hval : ∀ (j : Nat) t v, Try.f4.params[j]? = some t → args[j]? = some v → Value.okWide Try.prog W .any base t v)
    (hW : DataW.Whole enc Try.prog Try.f4.params.toList Rows.fnItvInSpec.vars false W args.toList ds gs before) :
    Calls Try.prog 4 args W fun e W' => ∃ v, e = .returned v ∧ Rows.fnItvInSpec.post enc Try.prog Try.f4 false true false false W args v W' := by
  have hW' := hW
  obtain ⟨p, q, hA0, hV, rfl, hfz, hnd⟩ := hW
  have hA : DataW.TrodAll enc Try.prog W 0 (fun _ => true) true Try.f4.params.toList args.toList ds p := hA0
  rw [Try.params4] at hA hval
  obtain ⟨v0, vs0, d0, ds0, p0, q0, hargs, rfl, rfl, h0, r0'⟩ := trodAll_cons hA
  obtain ⟨v1, vs1, d1, ds1, p1, q1, rfl, rfl, rfl, h1, r1'⟩ := trodAll_cons r0'
  obtain ⟨rfl, rfl, rfl⟩ := trodAll_nil r1'
  obtain rfl : args = #[v0, v1] := by cases args; simp_all
  obtain ⟨rfl, rfl⟩ := trodVars_none hV
  obtain ⟨a0, len0, cap0, rfl⟩ := okWide_slice Try.underlying22 (hval 0 22 v0 rfl rfl)
  have k0 := h0
  have lt0 : ∀ x ∈ p0, x.block < W.heap.size := by obtain ⟨m, hm⟩ := k0; exact DataW.trod_lt m _ _ _ hm
  obtain ⟨z0, hz0, r0⟩ : ∃ z : Nat → Int, (∀ i, 0 ≤ z i ∧ z i ≤ 255) ∧ Bytes W a0 len0 cap0 z := by
    obtain ⟨fuel, hf⟩ := h0
    rcases open_ints Try.underlying22 Try.underlying5 (by kernel_rfl) hf with ⟨hcs, _⟩ | ⟨x, l, c, zs, hcs, _, hl, hm, hz, _, hcell, hwz⟩
    · simp [Value.cells] at hcs
      obtain ⟨rfl, rfl, rfl⟩ := hcs
      exact ⟨fun _ => 0, fun _ => by simp, .inl rfl⟩
    · simp [Value.cells] at hcs
      obtain ⟨rfl, rfl, rfl⟩ := hcs
      exact bytes_of hl (by simpa using hz) hcell hwz
  obtain ⟨a1, len1, cap1, rfl⟩ := okWide_slice Try.underlying22 (hval 1 22 v1 rfl rfl)
  have k1 := h1
  have lt1 : ∀ x ∈ p1, x.block < W.heap.size := by obtain ⟨m, hm⟩ := k1; exact DataW.trod_lt m _ _ _ hm
  obtain ⟨z1, hz1, r1⟩ : ∃ z : Nat → Int, (∀ i, 0 ≤ z i ∧ z i ≤ 255) ∧ Bytes W a1 len1 cap1 z := by
    obtain ⟨fuel, hf⟩ := h1
    rcases open_ints Try.underlying22 Try.underlying5 (by kernel_rfl) hf with ⟨hcs, _⟩ | ⟨x, l, c, zs, hcs, _, hl, hm, hz, _, hcell, hwz⟩
    · simp [Value.cells] at hcs
      obtain ⟨rfl, rfl, rfl⟩ := hcs
      exact ⟨fun _ => 0, fun _ => by simp, .inl rfl⟩
    · simp [Value.cells] at hcs
      obtain ⟨rfl, rfl, rfl⟩ := hcs
      exact bytes_of hl (by simpa using hz) hcell hwz
  clear hA0
  refine (walk a0 len0 cap0 z0 a1 len1 cap1 z1 W hz0 r0 hz1 r1).mono fun e W' ⟨he, bel⟩ => ?_
  subst he
  exact ⟨_, rfl, _, _, _, [], _, [], hW', trodAll_mk1 (shut_bool Try.underlying4 _), (trodAll_cons_mk (Below.trod laidOut (by kernel_rfl) (of_decide_eq_true (by kernel_rfl)) k0 bel lt0) (trodAll_cons_mk (Below.trod laidOut (by kernel_rfl) (of_decide_eq_true (by kernel_rfl)) k1 bel lt1) trodAll_mk0)), rfl, bel.frame _, fun h => by cases h⟩

set_option maxRecDepth 100000 in
theorem lifted (os : Os) (started : os.Started) (H : Type) (enc : TypeId × Value → H) :
    ReturnsInHanded {} Try.checked os 4 .any (Rows.fnItvInSpec.pre6 enc Try.prog Try.f4 Rows.fnItvInRow.domain false) (Rows.fnItvInSpec.post enc Try.prog Try.f4 false true false false) := by
  refine returnsInHanded_of_change (C := Try.checked) own started (by kernel_rfl) Try.func4
    (ChangeSpec.witness6 (enc := enc) (C := Try.checked) false ⟨#[], #[.slice none 0 0, .slice none 0 0], []⟩ 8 (by kernel_rfl) (by kernel_rfl) (by kernel_rfl) (by kernel_rfl)) ?_
  intro W base args ds gs before hval hW _ _
  exact contract H enc W base args ds gs before hval hW

theorem proved : Rows.FnItvInSaid :=
  OpenClaim.holds_of_wide 4 Try.f4 rfl rfl rfl rfl rfl rfl rfl ⟨rfl, rfl, rfl, rfl, rfl⟩ rfl rfl rfl rfl rfl (by kernel_rfl) Try.func4 (by kernel_rfl)
    (of_decide_eq_true (by kernel_rfl)) (by unfold Func.isWrapper; first | (rw [if_pos (by decide +kernel)]; kernel_rfl) | (rw [if_neg (by decide +kernel)]; exact ⟨rfl, rfl⟩))
    (fun os started H enc _ => lifted os started H enc)
#print axioms proved
end Go.Proofs.Ytbnpbjkdigmphab.fnItvIn
