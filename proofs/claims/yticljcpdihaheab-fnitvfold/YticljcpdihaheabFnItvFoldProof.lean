/- Whatever bytes are handed in, the law FnItvFold returns true. Of more than 1048576 bytes the law itself answers true. No condition. -/
import Derived.Test.YticljcpdihaheabDrawFold
import Derived.Test.YticljcpdihaheabDrawList
import Derived.Test.YticljcpdihaheabItvFold
import Derived.Test.YticljcpdihaheabItvFoldI
import Derived.Test.YticljcpdihaheabItvI
import Derived.Test.YticljcpdihaheabHeld
import Derived.Test.YticljcpdihaheabRegInv
import Derived.Deep.RegionHeld3
import Derived.Deep.DeepCutAuto
import Derived.WalkKit
import Derived.ProofKit
import Derived.OpenShut
import Derived.ShutString
import Derived.ChangeOld
import Derived.Below
namespace Go.Proofs.Yticljcpdihaheab.fnItvFold
open Go.ChangeShapes Go.WideShapes Go.ChangeAt Go.RowKit
open Go.ChangeMaps (open_string shut_string)
set_option linter.unusedVariables false

theorem own : ownKnob Try.prog.godebug = none := by kernel_rfl
theorem laidOut : laidOutB Try.prog = true := by kernel_rfl

theorem hasI_is (a b n : Int) (t : Bool) (w : World) (h : itvHas a b n = t) :
    Calls Try.prog 10 #[.agg #[.int .i64 a, .int .i64 b], .int .i64 n] w fun e w' => e = .returned (.bool t) ∧ Below w.heap.size w w' := by
  subst h; exact itvHasI a b n w
theorem owOkT (w : World) : Calls Try.prog 8 #[] w fun e w' => e = .returned (.bool true) ∧ w' = w := by
  go_enter Try.func8, Try.ntmps8
  go_wp2_with (go_at_call 24; refine (okI _ _).mono ?_; rintro e w' ⟨rfl, rfl⟩)
  go_ret
  exact ⟨rfl, rfl⟩
theorem foldI_is (a b l h : Int) (w : World) (hl : foldLo a b = l) (hh : foldHi a b = h) :
    Calls Try.prog 6 #[.int .i64 a, .int .i64 b] w fun e w' => e = .returned (.agg #[.int .i64 l, .int .i64 h]) ∧ Below w.heap.size w w' := by
  subst hl hh; exact foldI a b w
theorem foldS_is (a b l h : Int) (w : World) (hl : foldLo a b = l) (hh : foldHi a b = h) :
    Calls Try.prog 7 #[.int .i64 a, .int .i64 b] w fun e w' => e = .returned (.agg #[.int .i64 l, .int .i64 h]) ∧ Below w.heap.size w w' := by
  subst hl hh; exact foldS a b w
theorem wrapI_is (n m : Int) (w : World) (h : wr n = m) :
    Calls Try.prog 11 #[.int .i64 n] w fun e w' => e = .returned (.int .i64 m) ∧ Below w.heap.size w w' := by
  subst h
  refine (wrapI n w).mono ?_
  rintro e w' ⟨rfl, rfl⟩
  exact ⟨rfl, Below.refl _ _⟩
theorem owNormT (n : Int) (w : World) :
    Calls Try.prog 9 #[.int .i64 n] w fun e w' => ∃ r : Int, 0 ≤ r ∧ r ≤ 65535 ∧ e = .returned (.int .i64 r) ∧ w' = w := by
  have hl : n.tmod 65536 < 65536 := Int.tmod_lt_of_pos _ (by omega)
  have hg : -65536 < n.tmod 65536 := by
    by_cases h : 0 ≤ n
    · rw [tm_pos n h]; omega
    · rw [tm_neg n (by omega)]; omega
  by_cases hc : n.tmod 65536 < 0
  · go_enter Try.func9, Try.ntmps9
    go_wp2
    go_ret
    exact ⟨_, by omega, by omega, rfl, rfl⟩
  · go_enter Try.func9, Try.ntmps9
    go_wp2
    go_ret
    exact ⟨_, by omega, by omega, rfl, rfl⟩
theorem has_mk {a b n : Int} (h1 : -32768 ≤ a) (h2 : b ≤ 32767) (h3 : a ≤ n) (h4 : n ≤ b) : itvHas a b n = true := by
  simp only [itvHas, itvOk, okB, Bool.and_eq_true, decide_eq_true_eq]
  omega
theorem fold_has {lo hi m : Int} (h : foldOk lo hi = true) (h1 : lo ≤ m) (h2 : m ≤ hi) : itvHas (foldLo lo hi) (foldHi lo hi) (wr m) = true := by
  have a1 := off_turn lo
  have a2 := off_turn m
  have a3 := off_turn hi
  have t1 : turn lo ≤ turn m := by unfold turn; omega
  have t2 : turn m ≤ turn hi := by unfold turn; omega
  rw [foldLo, foldHi, if_pos h, if_pos h]
  by_cases e : turn lo = turn hi
  · rw [if_pos e, if_pos e]
    exact has_mk (wr_lo _) (wr_hi _) (by omega) (by omega)
  · rw [if_neg e, if_neg e]
    exact has_mk (by omega) (by omega) (wr_lo _) (wr_hi _)
theorem fold_num {lo hi : Int} (h : foldOk lo hi = true) (h1 : okB lo = true) (h2 : okB hi = true) : foldLo lo hi = lo ∧ foldHi lo hi = hi := by
  have a1 := ok_lo h1
  have a2 := ok_hi h1
  have a3 := ok_lo h2
  have a4 := ok_hi h2
  have e : turn lo = turn hi := by unfold turn; omega
  rw [foldLo, foldHi, if_pos h, if_pos h, if_pos e, if_pos e]
  unfold wr
  omega
/-- What the law holds: its block, and the list. -/
def HL (w : World) (Lb : List (Nat × List Value)) (g : Nat) (zs : List Int) (W : World) : Prop := HeldL w Lb W ∧ g < W.heap.size ∧ ∀ j, j < 12 → W.cell? ⟨g, j, none⟩ = some (.int .i64 (zs.getD j 0))
theorem HL.next {w : World} {Lb : List (Nat × List Value)} {g : Nat} {zs : List Int} {W W' : World} (hb : Below W.heap.size W W') (h : HL w Lb g zs W) : HL w Lb g zs W' :=
  ⟨h.1.next hb, Nat.lt_of_lt_of_le h.2.1 hb.size, fun j hj => (hb.cell (p := ⟨g, j, none⟩) h.2.1).trans (h.2.2 j hj)⟩
theorem HL.cell {w : World} {Lb : List (Nat × List Value)} {g : Nat} {zs : List Int} {W : World} (h : HL w Lb g zs W) {e : Nat × List Value} (he : e ∈ Lb) {i : Nat} {v : Value} (hv : e.2[i]? = some v) : W.cell? ⟨e.1, i, none⟩ = some v := h.1.cell he hv
theorem HL.cells {w : World} {Lb : List (Nat × List Value)} {g : Nat} {zs : List Int} {W : World} (h : HL w Lb g zs W) : ∀ j, j < 12 → W.cell? ⟨g, j, none⟩ = some (.int .i64 (zs.getD j 0)) := h.2.2
theorem HL.below {w : World} {Lb : List (Nat × List Value)} {g : Nat} {zs : List Int} {W : World} (h : HL w Lb g zs W) : Below w.heap.size w W := h.1.below
theorem HL.drew {w : World} {Lb : List (Nat × List Value)} {g : Nat} {zs : List Int} {W : World} (h : HL w Lb g zs W) : HL w Lb g zs W.drew := h.next (Below.refl _ W).drew

set_option maxRecDepth 10000 in
set_option maxHeartbeats 40000000 in
theorem walk (a0 : Option Addr) (len0 cap0 : Nat) (z0 : Nat → Int) (a1 : Option Addr) (len1 cap1 : Nat) (z1 : Nat → Int) (w : World) (hz0 : ∀ i, 0 ≤ z0 i ∧ z0 i ≤ 255) (r0 : Bytes w a0 len0 cap0 z0) (hz1 : ∀ i, 0 ≤ z1 i ∧ z1 i ≤ 255) (r1 : Bytes w a1 len1 cap1 z1) :
    Calls Try.prog 3 #[.slice a0 len0 cap0, .slice a1 len1 cap1] w fun e w' => e = .returned (.bool true) ∧ Below w.heap.size w w' := by
  by_cases hl0 : len0 ≤ 1048576
  case neg =>
    have hi : (1048576 : Int) < (len0 : Int) := by omega
    go_enter Try.func3, Try.ntmps3
    go_wp2_with fail
    go_ret
    exact ⟨rfl, Below.refl _ _⟩
  have hi0 : ¬ (1048576 : Int) < (len0 : Int) := by omega
  by_cases hl1 : len1 ≤ 1048576
  case neg =>
    have hi : (1048576 : Int) < (len1 : Int) := by omega
    go_enter Try.func3, Try.ntmps3
    go_wp2_with fail
    go_ret
    exact ⟨rfl, Below.refl _ _⟩
  have hi1 : ¬ (1048576 : Int) < (len1 : Int) := by omega
  go_enter Try.func3, Try.ntmps3
  go_wp2_with fail
  refine (drawFold a0 len0 cap0 z0 _ hz0 hl0 r0).mono ?_
  rintro e w1 ⟨lo, hi, ⟨lo1, lo2⟩, ⟨hi1', hi2'⟩, rfl, b1⟩
  have r1' := r1.kept b1
  clear r0 r1
  go_wp2_with fail
  refine (drawInputs a1 len1 cap1 z1 _ hz1 hl1 r1').mono ?_
  rintro e w2 ⟨n, v, hn1, hn2, rfl, ⟨g, cap, zs, rfl, hcap, hg1, hg2, hlen, hin, hcell⟩, b2⟩
  have H2 : HeldL w [] w2 := ((HeldL.nil w).next b1).next b2
  clear r1' b1 b2
  obtain ⟨fl, hl0'⟩ : ∃ l, foldLo lo hi = l := ⟨_, rfl⟩
  obtain ⟨fh, hh0'⟩ : ∃ l, foldHi lo hi = l := ⟨_, rfl⟩
  have hfl : Hid (foldLo lo hi = fl) := hl0'
  have hfh : Hid (foldHi lo hi = fh) := hh0'
  clear hl0' hh0'
  go_wp2_with fail
  refine (foldI_is _ _ fl fh _ hfl.out hfh.out).mono ?_
  rintro e w3 ⟨rfl, b3⟩
  have H6 := HeldL.new (t := 29) (x := .int .i64 fl) (y := .int .i64 fh) (H2.next b3)
  have g3 : g < w3.heap.size := Nat.lt_of_lt_of_le hg2 b3.size
  have hc3 : ∀ j, j < 12 → (w3.alloc (.cells #[.int .i64 fl, .int .i64 fh] 29)).cell? ⟨g, j, none⟩ = some (.int .i64 (zs.getD j 0)) := fun j hj => ((World.cell?_alloc_lt _ _ _ g3).trans (b3.cell (p := ⟨g, j, none⟩) hg2)).trans (hcell j hj)
  have g3' : g < (w3.alloc (.cells #[.int .i64 fl, .int .i64 fh] 29)).drew.heap.size := by simp; omega
  clear b3 H2 hcell hg1 hg2 hcap
  obtain ⟨Lb, hLb⟩ : ∃ Lb, Lb = [(w3.heap.size, [Value.int .i64 fl, .int .i64 fh])] := ⟨_, rfl⟩
  have mX : (w3.heap.size, [Value.int .i64 fl, .int .i64 fh]) ∈ Lb := by rw [hLb]; simp
  rw [← hLb] at H6
  have hS00 : HeldL w Lb (w3.alloc (.cells #[.int .i64 fl, .int .i64 fh] 29)).drew := H6.drew
  have hcS : Hid (∀ j, j < 12 → (w3.alloc (.cells #[.int .i64 fl, .int .i64 fh] 29)).drew.cell? ⟨g, j, none⟩ = some (.int .i64 (zs.getD j 0))) := hc3
  obtain ⟨X, hX⟩ : ∃ X, X = (w3.alloc (.cells #[.int .i64 fl, .int .i64 fh] 29)).drew := ⟨_, rfl⟩
  rw [← hX] at hcS g3' hS00
  have hS0 : HL w Lb g zs (w3.alloc (.cells #[.int .i64 fl, .int .i64 fh] 29)).drew := by rw [← hX]; exact ⟨hS00, g3', hcS.out⟩
  clear H6 hLb hc3 g3 hX hcS g3' hS00
  go_wp2_with fail
  refine region_inv3 [(0, 34), (1, 35), (2, 36), (3, 37), (4, 38)]
    (fun j v _ => match j with
      | 0 => Is (.agg #[.int .i64 fl, .int .i64 fh]) v
      | 1 => Is (.int .i64 lo) v
      | 2 => Is (.int .i64 hi) v
      | 3 => Is (.agg #[.int .i64 fl, .int .i64 fh]) v
      | 4 => Is (.bool false) v
      | _ => True)
    (fun _ W => HL w Lb g zs W) TT
    (by kernel_rfl) (by kernel_rfl) (by kernel_rfl) (by kernel_rfl) (by kernel_rfl) rfl hS0 (fun i j v W W' _ h _ => h) ?_ ?_
  · intro i L vals W hi' hφ hS hL hd
    have hi2 : i < 5 := hi'
    clear hi'
    rcases (show i = 0 ∨ i = 1 ∨ i = 2 ∨ i = 3 ∨ i = 4 by omega) with rfl | rfl | rfl | rfl | rfl
    · have c0 : W.cell? ⟨w3.heap.size, 0, none⟩ = some (.int .i64 fl) := HL.cell hS mX (i := 0) rfl
      have c1 : W.cell? ⟨w3.heap.size, 1, none⟩ = some (.int .i64 fh) := HL.cell hS mX (i := 1) rfl
      refine wpAt_of rfl rfl ?_
      simp only [frOf, Act.put]
      go_wp2_with fail
      first | exact ⟨trivial, rfl, trivial, hS⟩ | exact ⟨rfl, trivial, hS⟩
    · refine wpAt_of rfl rfl ?_
      simp only [frOf, Act.put]
      go_wp2_with fail
      first | exact ⟨trivial, rfl, trivial, hS⟩ | exact ⟨rfl, trivial, hS⟩
    · refine wpAt_of rfl rfl ?_
      simp only [frOf, Act.put]
      go_wp2_with fail
      first | exact ⟨trivial, rfl, trivial, hS⟩ | exact ⟨rfl, trivial, hS⟩
    · have k1 : vals 1 = .int .i64 lo := hφ 1 (hd 1 (by decide))
      have k2 : vals 2 = .int .i64 hi := hφ 2 (hd 2 (by decide))
      refine wpAt_of rfl rfl ?_
      simp only [frOf, Act.put]
      go_wp2_with fail
      refine (foldS_is _ _ fl fh _ hfl.out hfh.out).mono ?_
      rintro e W' ⟨rfl, hb⟩
      go_wp2_with fail
      first | exact ⟨trivial, rfl, trivial, HL.next hb hS⟩ | exact ⟨rfl, trivial, HL.next hb hS⟩
    · have k0 : vals 0 = .agg #[.int .i64 fl, .int .i64 fh] := hφ 0 (hd 0 (by decide))
      have k3 : vals 3 = .agg #[.int .i64 fl, .int .i64 fh] := hφ 3 (hd 3 (by decide))
      refine wpAt_of rfl rfl ?_
      simp only [frOf, Act.put]
      go_wp2_with fail
      first | exact ⟨trivial, rfl, trivial, hS⟩ | exact ⟨rfl, trivial, hS⟩
  · intro L vals W hall hφ hS
    have k0 : vals 0 = .agg #[.int .i64 fl, .int .i64 fh] := hφ 0 (by decide)
    have k1 : vals 1 = .int .i64 lo := hφ 1 (by decide)
    have k2 : vals 2 = .int .i64 hi := hφ 2 (by decide)
    have k3 : vals 3 = .agg #[.int .i64 fl, .int .i64 fh] := hφ 3 (by decide)
    have k4 : vals 4 = .bool false := hφ 4 (by decide)
    simp only [frOf, Act.put, List.setIfInBounds_toArray, List.set_cons_succ, List.set_cons_zero, k0, k1, k2, k3, k4]
    clear k0 k1 k2 k3 k4
    clear hall hφ hS0
    have x0 : W.cell? ⟨w3.heap.size, 0, none⟩ = some (.int .i64 fl) := hS.cell mX (i := 0) rfl
    have x1 : W.cell? ⟨w3.heap.size, 1, none⟩ = some (.int .i64 fh) := hS.cell mX (i := 1) rfl
    by_cases c1 : lo < -1099511627776
    · have z0 : foldOk lo hi = false := by simp [foldOk, far]; omega
      have jz : fl = 0 ∧ fh = 0 := by rw [← hfl.out, ← hfh.out]; simp [foldLo, foldHi, z0]
      obtain ⟨rfl, rfl⟩ := jz
      clear z0
      go_wp2_with (first | (go_at_call 8; refine (owOkT _).mono ?_; rintro e w' ⟨rfl, rfl⟩))
      go_ret
      exact ⟨rfl, hS.below⟩
    by_cases c2 : 1099511627776 < lo
    · have z0 : foldOk lo hi = false := by simp [foldOk, far]; omega
      have jz : fl = 0 ∧ fh = 0 := by rw [← hfl.out, ← hfh.out]; simp [foldLo, foldHi, z0]
      obtain ⟨rfl, rfl⟩ := jz
      clear z0
      go_wp2_with (first | (go_at_call 8; refine (owOkT _).mono ?_; rintro e w' ⟨rfl, rfl⟩))
      go_ret
      exact ⟨rfl, hS.below⟩
    by_cases c3 : hi < -1099511627776
    · have z0 : foldOk lo hi = false := by simp [foldOk, far]; omega
      have jz : fl = 0 ∧ fh = 0 := by rw [← hfl.out, ← hfh.out]; simp [foldLo, foldHi, z0]
      obtain ⟨rfl, rfl⟩ := jz
      clear z0
      go_wp2_with (first | (go_at_call 8; refine (owOkT _).mono ?_; rintro e w' ⟨rfl, rfl⟩))
      go_ret
      exact ⟨rfl, hS.below⟩
    by_cases c4 : 1099511627776 < hi
    · have z0 : foldOk lo hi = false := by simp [foldOk, far]; omega
      have jz : fl = 0 ∧ fh = 0 := by rw [← hfl.out, ← hfh.out]; simp [foldLo, foldHi, z0]
      obtain ⟨rfl, rfl⟩ := jz
      clear z0
      go_wp2_with (first | (go_at_call 8; refine (owOkT _).mono ?_; rintro e w' ⟨rfl, rfl⟩))
      go_ret
      exact ⟨rfl, hS.below⟩
    by_cases c5 : hi < lo
    · have z0 : foldOk lo hi = false := by simp [foldOk, far]; omega
      have jz : fl = 0 ∧ fh = 0 := by rw [← hfl.out, ← hfh.out]; simp [foldLo, foldHi, z0]
      obtain ⟨rfl, rfl⟩ := jz
      clear z0
      go_wp2_with (first | (go_at_call 8; refine (owOkT _).mono ?_; rintro e w' ⟨rfl, rfl⟩))
      go_ret
      exact ⟨rfl, hS.below⟩
    have z1 : foldOk lo hi = true := by simp [foldOk, far]; omega
    have z1S : Hid (foldOk lo hi = true) := z1
    clear z1 x0 x1
    go_wp2_with fail
    go_loopw [11] (fun i W => ∃ k : Nat, k ≤ 12 ∧ i = .int .i64 k ∧ HL w Lb g zs W) (fun i _ => 12 - (intOf i).toNat)
    case atStart => exact ⟨0, by omega, rfl, hS⟩
    case round =>
      clear hS
      obtain ⟨k, hk, rfl, hS⟩ := hrel
      by_cases hlt : k < 12
      · have cc := hS.cells k hlt
        have t1 : ((k : Int)).toNat = k := by omega
        have t2 : (0 : Int) ≤ (k : Int) := by omega
        have t3 : (k : Int) < 12 := by omega
        generalize zs.getD k 0 = y at cc
        go_wp2_with fail
        refine (owNormT _ _).mono ?_
        rintro e w' ⟨s1, hs1, hs2, rfl, rfl⟩
        go_wp2_with fail
        refine (owNormT _ _).mono ?_
        rintro e w' ⟨s2, hs3, hs4, rfl, rfl⟩
        have d0 : ¬ (hi - lo + 1 = 0) := by omega
        have d1 : 0 ≤ s1 * 65536 + s2 := by omega
        have d2 := Int.emod_nonneg (s1 * 65536 + s2) d0
        have d3 := Int.emod_lt_of_pos (s1 * 65536 + s2) (show 0 < hi - lo + 1 by omega)
        have d4 : (s1 * 65536 + s2).tmod (hi - lo + 1) = (s1 * 65536 + s2) % (hi - lo + 1) := Int.tmod_eq_emod_of_nonneg d1
        obtain ⟨q, hq⟩ : ∃ q, q = (s1 * 65536 + s2) % (hi - lo + 1) := ⟨_, rfl⟩
        rw [← hq] at d2 d3 d4
        clear hq
        obtain ⟨wm, hwm0⟩ : ∃ wm, Go.Proofs.Yticljcpdihaheab.wr (lo + q) = wm := ⟨_, rfl⟩
        have hwm : Hid (Go.Proofs.Yticljcpdihaheab.wr (lo + q) = wm) := hwm0
        have hHas : Hid (itvHas fl fh wm = true) := by
          have := fold_has z1S.out (show lo ≤ lo + q by omega) (show lo + q ≤ hi by omega)
          rw [hfl.out, hfh.out, hwm0] at this
          exact this
        clear hwm0
        have hS0 := hS.drew
        go_wp2_with fail
        refine region_inv3 [(0, 92), (1, 93), (2, 94), (3, 95), (4, 96)]
          (fun j v _ => match j with
            | 0 => Is (.agg #[.int .i64 fl, .int .i64 fh]) v
            | 1 => Is (.int .i64 (lo + q)) v
            | 2 => Is (.int .i64 wm) v
            | 3 => Is (.bool true) v
            | 4 => Is (.bool false) v
            | _ => True)
          (fun _ W => HL w Lb g zs W) TT
          (by kernel_rfl) (by kernel_rfl) (by kernel_rfl) (by kernel_rfl) (by kernel_rfl) rfl hS0 (fun i j v W W' _ h _ => h) ?_ ?_
        · intro i L vals W hi' hφ hS hL hd
          have hi2 : i < 5 := hi'
          clear hi'
          rcases (show i = 0 ∨ i = 1 ∨ i = 2 ∨ i = 3 ∨ i = 4 by omega) with rfl | rfl | rfl | rfl | rfl
          · have c0 : W.cell? ⟨w3.heap.size, 0, none⟩ = some (.int .i64 fl) := HL.cell hS mX (i := 0) rfl
            have c1 : W.cell? ⟨w3.heap.size, 1, none⟩ = some (.int .i64 fh) := HL.cell hS mX (i := 1) rfl
            refine wpAt_of rfl rfl ?_
            simp only [frOf, Act.put]
            go_wp2_with fail
            first | exact ⟨trivial, rfl, trivial, hS⟩ | exact ⟨rfl, trivial, hS⟩
          · refine wpAt_of rfl rfl ?_
            simp only [frOf, Act.put]
            go_wp2_with fail
            first | exact ⟨trivial, rfl, trivial, hS⟩ | exact ⟨rfl, trivial, hS⟩
          · have k1 : vals 1 = .int .i64 (lo + q) := hφ 1 (hd 1 (by decide))
            refine wpAt_of rfl rfl ?_
            simp only [frOf, Act.put]
            go_wp2_with fail
            refine (wrapI_is _ wm _ hwm.out).mono ?_
            rintro e W' ⟨rfl, hb⟩
            go_wp2_with fail
            first | exact ⟨trivial, rfl, trivial, HL.next hb hS⟩ | exact ⟨rfl, trivial, HL.next hb hS⟩
          · have k0 : vals 0 = .agg #[.int .i64 fl, .int .i64 fh] := hφ 0 (hd 0 (by decide))
            have k2 : vals 2 = .int .i64 wm := hφ 2 (hd 2 (by decide))
            refine wpAt_of rfl rfl ?_
            simp only [frOf, Act.put]
            go_wp2_with fail
            refine (hasI_is _ _ _ _ _ hHas.out).mono ?_
            rintro e W' ⟨rfl, hb⟩
            go_wp2_with fail
            first | exact ⟨trivial, rfl, trivial, HL.next hb hS⟩ | exact ⟨rfl, trivial, HL.next hb hS⟩
          · have k3 : vals 3 = .bool true := hφ 3 (hd 3 (by decide))
            refine wpAt_of rfl rfl ?_
            simp only [frOf, Act.put]
            go_wp2_with fail
            first | exact ⟨trivial, rfl, trivial, hS⟩ | exact ⟨rfl, trivial, hS⟩
        · intro L vals W hall hφ hS
          have k0 : vals 0 = .agg #[.int .i64 fl, .int .i64 fh] := hφ 0 (by decide)
          have k1 : vals 1 = .int .i64 (lo + q) := hφ 1 (by decide)
          have k2 : vals 2 = .int .i64 wm := hφ 2 (by decide)
          have k3 : vals 3 = .bool true := hφ 3 (by decide)
          have k4 : vals 4 = .bool false := hφ 4 (by decide)
          simp only [frOf, Act.put, List.setIfInBounds_toArray, List.set_cons_succ, List.set_cons_zero, k0, k1, k2, k3, k4]
          clear k0 k1 k2 k3 k4
          clear hall hφ hS0
          go_wp2_with fail
          go_roundw
          case rel => exact ⟨k + 1, by omega, by go_num, hS⟩
          case measure => simp [intOf]; omega
      · obtain rfl : k = 12 := by omega
        have x0 : wr.cell? ⟨w3.heap.size, 0, none⟩ = some (.int .i64 fl) := hS.cell mX (i := 0) rfl
        have x1 : wr.cell? ⟨w3.heap.size, 1, none⟩ = some (.int .i64 fh) := hS.cell mX (i := 1) rfl
        obtain ⟨wm, hwm0⟩ : ∃ wm, Go.Proofs.Yticljcpdihaheab.wr hi = wm := ⟨_, rfl⟩
        have hwm : Hid (Go.Proofs.Yticljcpdihaheab.wr hi = wm) := hwm0
        have hHas : Hid (itvHas fl fh wm = true) := by
          have := fold_has z1S.out (show lo ≤ hi by omega) (Int.le_refl hi)
          rw [hfl.out, hfh.out, hwm0] at this
          exact this
        clear hwm0
        go_wp2_with fail
        refine (okS _ _).mono ?_
        rintro e w' ⟨rfl, rfl⟩
        cases o1 : okB lo
        · clear o1 x0 x1
          have hS0 := hS.drew
          go_wp2_with fail
          refine region_inv3 [(0, 117), (1, 118), (2, 119), (3, 120), (4, 4)]
            (fun j v _ => match j with
              | 0 => Is (.agg #[.int .i64 fl, .int .i64 fh]) v
              | 1 => Is (.int .i64 hi) v
              | 2 => Is (.int .i64 wm) v
              | 3 => Is (.bool true) v
              | 4 => Is (.bool true) v
              | _ => True)
            (fun _ W => HL w Lb g zs W) TT
            (by kernel_rfl) (by kernel_rfl) (by kernel_rfl) (by kernel_rfl) (by kernel_rfl) rfl hS0 (fun i j v W W' _ h _ => h) ?_ ?_
          · intro i L vals W hi' hφ hS hL hd
            have hi2 : i < 5 := hi'
            clear hi'
            rcases (show i = 0 ∨ i = 1 ∨ i = 2 ∨ i = 3 ∨ i = 4 by omega) with rfl | rfl | rfl | rfl | rfl
            · have c0 : W.cell? ⟨w3.heap.size, 0, none⟩ = some (.int .i64 fl) := HL.cell hS mX (i := 0) rfl
              have c1 : W.cell? ⟨w3.heap.size, 1, none⟩ = some (.int .i64 fh) := HL.cell hS mX (i := 1) rfl
              refine wpAt_of rfl rfl ?_
              simp only [frOf, Act.put]
              go_wp2_with fail
              first | exact ⟨trivial, rfl, trivial, hS⟩ | exact ⟨rfl, trivial, hS⟩
            · refine wpAt_of rfl rfl ?_
              simp only [frOf, Act.put]
              go_wp2_with fail
              first | exact ⟨trivial, rfl, trivial, hS⟩ | exact ⟨rfl, trivial, hS⟩
            · have k1 : vals 1 = .int .i64 hi := hφ 1 (hd 1 (by decide))
              refine wpAt_of rfl rfl ?_
              simp only [frOf, Act.put]
              go_wp2_with fail
              refine (wrapI_is _ wm _ hwm.out).mono ?_
              rintro e W' ⟨rfl, hb⟩
              go_wp2_with fail
              first | exact ⟨trivial, rfl, trivial, HL.next hb hS⟩ | exact ⟨rfl, trivial, HL.next hb hS⟩
            · have k0 : vals 0 = .agg #[.int .i64 fl, .int .i64 fh] := hφ 0 (hd 0 (by decide))
              have k2 : vals 2 = .int .i64 wm := hφ 2 (hd 2 (by decide))
              refine wpAt_of rfl rfl ?_
              simp only [frOf, Act.put]
              go_wp2_with fail
              refine (hasI_is _ _ _ _ _ hHas.out).mono ?_
              rintro e W' ⟨rfl, hb⟩
              go_wp2_with fail
              first | exact ⟨trivial, rfl, trivial, HL.next hb hS⟩ | exact ⟨rfl, trivial, HL.next hb hS⟩
            · have k3 : vals 3 = .bool true := hφ 3 (hd 3 (by decide))
              refine wpAt_of rfl rfl ?_
              simp only [frOf, Act.put]
              go_wp2_with fail
              first | exact ⟨trivial, rfl, trivial, hS⟩ | exact ⟨rfl, trivial, hS⟩
          · intro L vals W hall hφ hS
            have k0 : vals 0 = .agg #[.int .i64 fl, .int .i64 fh] := hφ 0 (by decide)
            have k1 : vals 1 = .int .i64 hi := hφ 1 (by decide)
            have k2 : vals 2 = .int .i64 wm := hφ 2 (by decide)
            have k3 : vals 3 = .bool true := hφ 3 (by decide)
            have k4 : vals 4 = .bool true := hφ 4 (by decide)
            simp only [frOf, Act.put, List.setIfInBounds_toArray, List.set_cons_succ, List.set_cons_zero, k0, k1, k2, k3, k4]
            clear k0 k1 k2 k3 k4
            clear hall hφ hS0
            go_wp2_with fail
            go_ret
            exact ⟨rfl, hS.below⟩
        · go_wp2_with fail
          refine (okS _ _).mono ?_
          rintro e w' ⟨rfl, rfl⟩
          cases o2 : okB hi
          · clear o1 o2 x0 x1
            have hS0 := hS.drew
            go_wp2_with fail
            refine region_inv3 [(0, 117), (1, 118), (2, 119), (3, 120), (4, 4)]
              (fun j v _ => match j with
                | 0 => Is (.agg #[.int .i64 fl, .int .i64 fh]) v
                | 1 => Is (.int .i64 hi) v
                | 2 => Is (.int .i64 wm) v
                | 3 => Is (.bool true) v
                | 4 => Is (.bool true) v
                | _ => True)
              (fun _ W => HL w Lb g zs W) TT
              (by kernel_rfl) (by kernel_rfl) (by kernel_rfl) (by kernel_rfl) (by kernel_rfl) rfl hS0 (fun i j v W W' _ h _ => h) ?_ ?_
            · intro i L vals W hi' hφ hS hL hd
              have hi2 : i < 5 := hi'
              clear hi'
              rcases (show i = 0 ∨ i = 1 ∨ i = 2 ∨ i = 3 ∨ i = 4 by omega) with rfl | rfl | rfl | rfl | rfl
              · have c0 : W.cell? ⟨w3.heap.size, 0, none⟩ = some (.int .i64 fl) := HL.cell hS mX (i := 0) rfl
                have c1 : W.cell? ⟨w3.heap.size, 1, none⟩ = some (.int .i64 fh) := HL.cell hS mX (i := 1) rfl
                refine wpAt_of rfl rfl ?_
                simp only [frOf, Act.put]
                go_wp2_with fail
                first | exact ⟨trivial, rfl, trivial, hS⟩ | exact ⟨rfl, trivial, hS⟩
              · refine wpAt_of rfl rfl ?_
                simp only [frOf, Act.put]
                go_wp2_with fail
                first | exact ⟨trivial, rfl, trivial, hS⟩ | exact ⟨rfl, trivial, hS⟩
              · have k1 : vals 1 = .int .i64 hi := hφ 1 (hd 1 (by decide))
                refine wpAt_of rfl rfl ?_
                simp only [frOf, Act.put]
                go_wp2_with fail
                refine (wrapI_is _ wm _ hwm.out).mono ?_
                rintro e W' ⟨rfl, hb⟩
                go_wp2_with fail
                first | exact ⟨trivial, rfl, trivial, HL.next hb hS⟩ | exact ⟨rfl, trivial, HL.next hb hS⟩
              · have k0 : vals 0 = .agg #[.int .i64 fl, .int .i64 fh] := hφ 0 (hd 0 (by decide))
                have k2 : vals 2 = .int .i64 wm := hφ 2 (hd 2 (by decide))
                refine wpAt_of rfl rfl ?_
                simp only [frOf, Act.put]
                go_wp2_with fail
                refine (hasI_is _ _ _ _ _ hHas.out).mono ?_
                rintro e W' ⟨rfl, hb⟩
                go_wp2_with fail
                first | exact ⟨trivial, rfl, trivial, HL.next hb hS⟩ | exact ⟨rfl, trivial, HL.next hb hS⟩
              · have k3 : vals 3 = .bool true := hφ 3 (hd 3 (by decide))
                refine wpAt_of rfl rfl ?_
                simp only [frOf, Act.put]
                go_wp2_with fail
                first | exact ⟨trivial, rfl, trivial, hS⟩ | exact ⟨rfl, trivial, hS⟩
            · intro L vals W hall hφ hS
              have k0 : vals 0 = .agg #[.int .i64 fl, .int .i64 fh] := hφ 0 (by decide)
              have k1 : vals 1 = .int .i64 hi := hφ 1 (by decide)
              have k2 : vals 2 = .int .i64 wm := hφ 2 (by decide)
              have k3 : vals 3 = .bool true := hφ 3 (by decide)
              have k4 : vals 4 = .bool true := hφ 4 (by decide)
              simp only [frOf, Act.put, List.setIfInBounds_toArray, List.set_cons_succ, List.set_cons_zero, k0, k1, k2, k3, k4]
              clear k0 k1 k2 k3 k4
              clear hall hφ hS0
              go_wp2_with fail
              go_ret
              exact ⟨rfl, hS.below⟩
          · obtain ⟨f1, f2⟩ := fold_num z1S.out o1 o2
            rw [hfl.out] at f1
            rw [hfh.out] at f2
            subst f1 f2
            have iok : itvOk fl fh = true := by simp [itvOk, o1, o2]; omega
            clear o1 o2
            go_wp2_with fail
            refine (itvOkI _ _ _).mono ?_
            rintro e w9 ⟨rfl, b9⟩
            rw [iok]
            go_wp2_with fail
            go_ret
            exact ⟨rfl, (hS.next b9).below⟩

theorem contract (H : Type) (enc : TypeId × Value → H) (W : World) (base : Nat) (args : Array Value) (ds gs : List (DataW H)) (before : List MemPlace)
    (hval : ∀ (j : Nat) t v, Try.f3.params[j]? = some t → args[j]? = some v → Value.okWide Try.prog W .any base t v)
    (hW : DataW.Whole enc Try.prog Try.f3.params.toList Rows.fnItvFoldSpec.vars false W args.toList ds gs before) :
    Calls Try.prog 3 args W fun e W' => ∃ v, e = .returned v ∧ Rows.fnItvFoldSpec.post enc Try.prog Try.f3 false true false false W args v W' := by
  have hW' := hW
  obtain ⟨p, q, hA0, hV, rfl, hfz, hnd⟩ := hW
  have hA : DataW.TrodAll enc Try.prog W 0 (fun _ => true) true Try.f3.params.toList args.toList ds p := hA0
  rw [Try.params3] at hA hval
  obtain ⟨v0, vs0, d0, ds0, p0, q0, hargs, rfl, rfl, h0, r0'⟩ := trodAll_cons hA
  obtain ⟨v1, vs1, d1, ds1, p1, q1, rfl, rfl, rfl, h1, r1'⟩ := trodAll_cons r0'
  obtain ⟨rfl, rfl, rfl⟩ := trodAll_nil r1'
  obtain rfl : args = #[v0, v1] := by cases args; simp_all
  obtain ⟨rfl, rfl⟩ := trodVars_none hV
  obtain ⟨a0, len0, cap0, rfl⟩ := okWide_slice Try.underlying22 (hval 0 22 v0 rfl rfl)
  have k0 := h0
  have lt0 : ∀ x ∈ p0, x.block < W.heap.size := by obtain ⟨m, hm⟩ := k0; exact DataW.trod_lt m _ _ _ hm
  obtain ⟨z0, hz0, r0⟩ : ∃ z : Nat → Int, (∀ i, 0 ≤ z i ∧ z i ≤ 255) ∧ Bytes W a0 len0 cap0 z := by
    obtain ⟨fuel, hf⟩ := h0
    rcases open_ints Try.underlying22 Try.underlying5 (by kernel_rfl) hf with ⟨hcs, _⟩ | ⟨x, l, c, zs, hcs, _, hl, hm, hz, _, hcell, hwz⟩
    · simp [Value.cells] at hcs
      obtain ⟨rfl, rfl, rfl⟩ := hcs
      exact ⟨fun _ => 0, fun _ => by simp, .inl rfl⟩
    · simp [Value.cells] at hcs
      obtain ⟨rfl, rfl, rfl⟩ := hcs
      exact bytes_of hl (by simpa using hz) hcell hwz
  obtain ⟨a1, len1, cap1, rfl⟩ := okWide_slice Try.underlying22 (hval 1 22 v1 rfl rfl)
  have k1 := h1
  have lt1 : ∀ x ∈ p1, x.block < W.heap.size := by obtain ⟨m, hm⟩ := k1; exact DataW.trod_lt m _ _ _ hm
  obtain ⟨z1, hz1, r1⟩ : ∃ z : Nat → Int, (∀ i, 0 ≤ z i ∧ z i ≤ 255) ∧ Bytes W a1 len1 cap1 z := by
    obtain ⟨fuel, hf⟩ := h1
    rcases open_ints Try.underlying22 Try.underlying5 (by kernel_rfl) hf with ⟨hcs, _⟩ | ⟨x, l, c, zs, hcs, _, hl, hm, hz, _, hcell, hwz⟩
    · simp [Value.cells] at hcs
      obtain ⟨rfl, rfl, rfl⟩ := hcs
      exact ⟨fun _ => 0, fun _ => by simp, .inl rfl⟩
    · simp [Value.cells] at hcs
      obtain ⟨rfl, rfl, rfl⟩ := hcs
      exact bytes_of hl (by simpa using hz) hcell hwz
  clear hA0
  refine (walk a0 len0 cap0 z0 a1 len1 cap1 z1 W hz0 r0 hz1 r1).mono fun e W' ⟨he, bel⟩ => ?_
  subst he
  exact ⟨_, rfl, _, _, _, [], _, [], hW', trodAll_mk1 (shut_bool Try.underlying4 _), (trodAll_cons_mk (Below.trod laidOut (by kernel_rfl) (of_decide_eq_true (by kernel_rfl)) k0 bel lt0) (trodAll_cons_mk (Below.trod laidOut (by kernel_rfl) (of_decide_eq_true (by kernel_rfl)) k1 bel lt1) trodAll_mk0)), rfl, bel.frame _, fun h => by cases h⟩

set_option maxRecDepth 100000 in
theorem lifted (os : Os) (started : os.Started) (H : Type) (enc : TypeId × Value → H) :
    ReturnsInHanded {} Try.checked os 3 .any (Rows.fnItvFoldSpec.pre6 enc Try.prog Try.f3 Rows.fnItvFoldRow.domain false) (Rows.fnItvFoldSpec.post enc Try.prog Try.f3 false true false false) := by
  refine returnsInHanded_of_change (C := Try.checked) own started (by kernel_rfl) Try.func3
    (ChangeSpec.witness6 (enc := enc) (C := Try.checked) false ⟨#[], #[.slice none 0 0, .slice none 0 0], []⟩ 8 (by kernel_rfl) (by kernel_rfl) (by kernel_rfl) (by kernel_rfl)) ?_
  intro W base args ds gs before hval hW _ _
  exact contract H enc W base args ds gs before hval hW

theorem proved : Rows.FnItvFoldSaid :=
  OpenClaim.holds_of_wide 3 Try.f3 rfl rfl rfl rfl rfl rfl rfl ⟨rfl, rfl, rfl, rfl, rfl⟩ rfl rfl rfl rfl rfl (by kernel_rfl) Try.func3 (by kernel_rfl)
    (of_decide_eq_true (by kernel_rfl)) (by unfold Func.isWrapper; first | (rw [if_pos (by decide +kernel)]; kernel_rfl) | (rw [if_neg (by decide +kernel)]; exact ⟨rfl, rfl⟩))
    (fun os started H enc _ => lifted os started H enc)
#print axioms proved
end Go.Proofs.Yticljcpdihaheab.fnItvFold
