/- Whatever bytes are handed in, the law FnInsNext returns true. Of more than 1048576 bytes the law itself answers true. No condition. -/
import Derived.Test.YtafikmgpiklgkaaLawNext
import Derived.Test.YtafikmgpiklgkaaDrawInsN
import Derived.Test.YtafikmgpiklgkaaNextS
import Derived.Test.YtafikmgpiklgkaaNextI
import Derived.Test.YtafikmgpiklgkaaHeld
import Derived.Test.YtafikmgpiklgkaaHeld8
import Derived.Deep.RegionHeld3
import Derived.Deep.DeepCutAuto
import Derived.WalkKit
import Derived.ProofKit
import Derived.OpenShut
import Derived.ShutString
import Derived.ChangeOld
import Derived.Below
namespace Go.Proofs.Ytafikmgpiklgkaa.fnInsNext
open Go.ChangeShapes Go.WideShapes Go.ChangeAt Go.RowKit
open Go.ChangeMaps (open_string shut_string)
set_option linter.unusedVariables false

theorem own : ownKnob Try.prog.godebug = none := by kernel_rfl
theorem laidOut : laidOutB Try.prog = true := by kernel_rfl


set_option maxRecDepth 10000 in
set_option maxHeartbeats 40000000 in
theorem walk (a0 : Option Addr) (len0 cap0 : Nat) (z0 : Nat → Int) (w : World) (hz0 : ∀ i, 0 ≤ z0 i ∧ z0 i ≤ 255) (r0 : Bytes w a0 len0 cap0 z0) :
    Calls Try.prog 3 #[.slice a0 len0 cap0] w fun e w' => e = .returned (.bool true) ∧ Below w.heap.size w w' := by
  by_cases hl0 : len0 ≤ 1048576
  case neg =>
    have hi : (1048576 : Int) < (len0 : Int) := by omega
    go_enter Try.func3, Try.ntmps3
    go_wp2_with fail
    go_ret
    exact ⟨rfl, Below.refl _ _⟩
  have hi0 : ¬ (1048576 : Int) < (len0 : Int) := by omega
  go_enter Try.func3, Try.ntmps3
  go_wp2_with fail
  refine (drawInsNext a0 len0 cap0 z0 _ hz0 hl0 r0).mono ?_
  rintro e w1 ⟨o, d, a, b, r, l, h, t, n, io, id, ia, ib, ir, il, ih, it, hn, rfl, b1⟩
  have H1 : HeldL w [(w1.heap.size, [Value.int .i64 o, Value.int .i64 d, Value.int .i64 a, Value.int .i64 b, Value.int .i64 r, Value.int .i64 l, Value.int .i64 h, Value.int .i64 t])] (w1.alloc (.cells #[.int .i64 o, .int .i64 d, .int .i64 a, .int .i64 b, .int .i64 r, .int .i64 l, .int .i64 h, .int .i64 t] 24)) := HeldL.newL (vs := [Value.int .i64 o, Value.int .i64 d, Value.int .i64 a, Value.int .i64 b, Value.int .i64 r, Value.int .i64 l, Value.int .i64 h, Value.int .i64 t]) ((HeldL.nil w).next b1)
  obtain ⟨Lb, hLb⟩ : ∃ L, L = [(w1.heap.size, [Value.int .i64 o, Value.int .i64 d, Value.int .i64 a, Value.int .i64 b, Value.int .i64 r, Value.int .i64 l, Value.int .i64 h, Value.int .i64 t])] := ⟨_, rfl⟩
  have mI : (w1.heap.size, [Value.int .i64 o, Value.int .i64 d, Value.int .i64 a, Value.int .i64 b, Value.int .i64 r, Value.int .i64 l, Value.int .i64 h, Value.int .i64 t]) ∈ Lb := by rw [hLb]; simp
  rw [← hLb] at H1
  obtain ⟨zs, hzs⟩ : ∃ zs, insNext o d a b r l h t n = zs := ⟨_, rfl⟩
  have hlen : zs.length < 1000000 := by rw [← hzs]; exact next_len _ _ _ _ _ _ _ _ _
  have hzS : Hid (insNext o d a b r l h t n = zs) := hzs
  obtain ⟨q, hq0⟩ : ∃ q, zs.length = q := ⟨_, rfl⟩
  have hq : Hid (zs.length = q) := hq0
  rw [hq0] at hlen
  clear hzs hq0 hLb r0 b1 hz0 hl0 hi0
  have c0' := H1.cell mI (i := 0) rfl
  have c1' := H1.cell mI (i := 1) rfl
  have c2' := H1.cell mI (i := 2) rfl
  have c3' := H1.cell mI (i := 3) rfl
  have c4' := H1.cell mI (i := 4) rfl
  have c5' := H1.cell mI (i := 5) rfl
  have c6' := H1.cell mI (i := 6) rfl
  have c7' := H1.cell mI (i := 7) rfl
  dsimp only at c0' c1' c2' c3' c4' c5' c6' c7'
  go_wp2_with fail
  refine (nextI _ _ _ _ _ _ _ _ _ _).mono ?_
  rintro e w2 ⟨v, rfl, hm, b2⟩
  rw [hzS.out] at hm
  obtain ⟨sa, ca, g, rfl, ha⟩ := hm
  have H2 := H1.next b2
  clear c0' c1' c2' c3' c4' c5' c6' c7' H1 b2
  have c0' := H2.cell mI (i := 0) rfl
  have c1' := H2.cell mI (i := 1) rfl
  have c2' := H2.cell mI (i := 2) rfl
  have c3' := H2.cell mI (i := 3) rfl
  have c4' := H2.cell mI (i := 4) rfl
  have c5' := H2.cell mI (i := 5) rfl
  have c6' := H2.cell mI (i := 6) rfl
  have c7' := H2.cell mI (i := 7) rfl
  dsimp only at c0' c1' c2' c3' c4' c5' c6' c7'
  go_wp2_with fail
  refine (nextS _ _ _ _ _ _ _ _ _ _).mono ?_
  rintro e w3 ⟨v, rfl, hm, b3⟩
  rw [hzS.out] at hm
  obtain ⟨sb, cb, g', rfl, ha'⟩ := hm
  have H3 := H2.next b3
  have A3 := ha.next b3
  clear c0' c1' c2' c3' c4' c5' c6' c7' H2 b3 ha
  rw [hq.out]
  go_wp2_with fail
  refine (owIntsI _ _ _ _ _ _ _ _ q zs _ hq.out hlen A3 ha').mono ?_
  rintro e w4 ⟨rfl, b4⟩
  have H4 := H3.next b4
  have A4 := A3.next b4
  clear H3 A3 ha' b4
  have c0' := H4.cell mI (i := 0) rfl
  have c1' := H4.cell mI (i := 1) rfl
  have c2' := H4.cell mI (i := 2) rfl
  have c3' := H4.cell mI (i := 3) rfl
  have c4' := H4.cell mI (i := 4) rfl
  have c5' := H4.cell mI (i := 5) rfl
  have c6' := H4.cell mI (i := 6) rfl
  have c7' := H4.cell mI (i := 7) rfl
  dsimp only at c0' c1' c2' c3' c4' c5' c6' c7'
  go_wp2_with fail
  refine (insOkS _ _ _ _ _ _ _ _ _ _ _).mono ?_
  rintro e w5 ⟨rfl, b5⟩
  have H5 := H4.next b5
  have A5 : LstAt 0 g sa zs w5 := ⟨A4.at_, fun hz => ⟨Nat.zero_le _, ((A4.next b5).lo hz).2⟩, (A4.next b5).cell, (A4.next b5).free⟩
  clear c0' c1' c2' c3' c4' c5' c6' c7' H4 A4 b5
  cases ok : insOk o d a b r l h t 4 10
  · obtain rfl : zs = [] := by rw [← hzS.out]; exact next_no (.inl ok)
    obtain rfl : q = 0 := by rw [← hq.out]; rfl
    go_wp2_with (first | (go_at_call 9; refine (owOkT _).mono ?_; rintro e w' ⟨rfl, rfl⟩))
    go_ret
    exact ⟨rfl, H5.below⟩
  by_cases n0 : n < 0
  · obtain rfl : zs = [] := by rw [← hzS.out]; exact next_no (.inr (.inl n0))
    obtain rfl : q = 0 := by rw [← hq.out]; rfl
    go_wp2_with (first | (go_at_call 9; refine (owOkT _).mono ?_; rintro e w' ⟨rfl, rfl⟩))
    go_ret
    exact ⟨rfl, H5.below⟩
  by_cases n9 : 10 ≤ n
  · obtain rfl : zs = [] := by rw [← hzS.out]; exact next_no (.inr (.inr n9))
    obtain rfl : q = 0 := by rw [← hq.out]; rfl
    go_wp2_with (first | (go_at_call 9; refine (owOkT _).mono ?_; rintro e w' ⟨rfl, rfl⟩))
    go_ret
    exact ⟨rfl, H5.below⟩
  have hnx : nextL o t (n + 1) = zs := by rw [← hzS.out]; exact (next_yes ok (by omega) (by omega)).symm
  obtain ⟨f1, f2, f3, f4, f5⟩ := next_facts hnx
  rw [hq.out] at f1 f2 f3 f4 f5
  have F1 : Hid (q = 0 ↔ o = 12) := f1
  have F3 : Hid (q = 2 → zs.getD 0 0 < zs.getD 1 0) := f3
  have F4 : Hid (∀ j, j < q → zs.getD j 0 = n + 1 ∨ (zs.getD j 0 = t ∧ (o = 8 ∨ o = 9))) := f4
  have F5 : Hid (o ≠ 12 → o ≠ 9 → ∃ j, j < q ∧ zs.getD j 0 = n + 1) := f5
  have m0 : 0 ≤ n := by omega
  have m9 : n < 10 := by omega
  clear f1 f3 f4 f5 hnx ok hzS n0 n9 io id ia ib ir il ih it hn
  go_upto_region 9 with fail
  go_cut [66] (fun c W => c = .bool false ∧ HeldL w Lb W ∧ LstAt 0 g sa zs W)
  case first =>
    have c0' := H5.cell mI (i := 0) rfl
    dsimp only at c0'
    rcases (show q = 0 ∨ q = 1 ∨ q = 2 by omega) with rfl | rfl | rfl
    · obtain rfl : o = 12 := F1.out.1 rfl
      go_wp2_with fail
      go_quiet (fail)
      go_wp2
      go_meet
      exact ⟨by first | rfl | exact congrArg Value.bool (decide_eq_false (by omega)), HeldL.next (below_dn (Below.refl _ _) _) H5, A5.next (below_dn (Below.refl _ _) _)⟩
    · have ho : ¬ o = 12 := fun e => by have := F1.out.2 e; omega
      have ho2 : (o == 12) = false := by simp [ho]
      go_wp2_with fail
      go_quiet (fail)
      go_wp2
      go_meet
      exact ⟨by first | rfl | exact congrArg Value.bool (decide_eq_false (by omega)), HeldL.next (below_dn (Below.refl _ _) _) H5, A5.next (below_dn (Below.refl _ _) _)⟩
    · have ho : ¬ o = 12 := fun e => by have := F1.out.2 e; omega
      have ho2 : (o == 12) = false := by simp [ho]
      have hx := F3.out rfl
      have e1 := A5.at_ (by have := hq.out; omega)
      have x0 := A5.cell 0 (by have := hq.out; omega)
      have x1 := A5.cell 1 (by have := hq.out; omega)
      generalize zs.getD 0 0 = u0 at hx x0
      generalize zs.getD 1 0 = u1 at hx x1
      subst e1
      go_wp2_with fail
      go_quiet (fail)
      go_wp2
      go_meet
      exact ⟨by first | rfl | exact congrArg Value.bool (decide_eq_false (by omega)), HeldL.next (below_dn (Below.refl _ _) _) H5, A5.next (below_dn (Below.refl _ _) _)⟩
  case rest =>
    obtain ⟨rfl, H6, A6⟩ := hcut
    clear H5 A5 F1 F3
    go_wp2_with fail
    go_loopw [6] (fun i W => ∃ k : Nat, k ≤ q ∧ i = .int .i64 k ∧ HeldL w Lb W ∧ LstAt 0 g sa zs W) (fun i _ => q - (intOf i).toNat)
    case atStart => exact ⟨0, Nat.zero_le _, rfl, H6, A6⟩
    case round =>
      clear H6 A6
      obtain ⟨k, hk, rfl, hS, hA⟩ := hrel
      have c0' := hS.cell mI (i := 0) rfl
      have c7' := hS.cell mI (i := 7) rfl
      dsimp only at c0' c7'
      by_cases hlt : k < q
      · have e1 := hA.at_ (by have := hq.out; omega)
        subst e1
        have t1 : ((k : Int)).toNat = k := by omega
        have t2 : (0 : Int) ≤ (k : Int) := by omega
        have t3 : (k : Int) < (q : Int) := by omega
        have cx := hA.cell k (by have := hq.out; omega)
        have hx4 := F4.out k hlt
        obtain ⟨x, hx⟩ : ∃ x, zs.getD k 0 = x := ⟨_, rfl⟩
        rw [hx] at cx hx4
        clear hx
        by_cases hx1 : x = n + 1
        · subst hx1
          clear hx4
          go_wp2_with fail
          go_quiet (fail)
          go_wp2
          go_roundw
          case rel => exact ⟨k + 1, by omega, by go_num, HeldL.next (below_dn (Below.refl _ _) _) hS, hA.next (below_dn (Below.refl _ _) _)⟩
          case measure => simp [intOf]; omega
        · obtain ⟨rfl, ho⟩ : x = t ∧ (o = 8 ∨ o = 9) := hx4.resolve_left hx1
          have hxb : (x == n + 1) = false := by simp [hx1]
          have hxc : (x != n + 1) = true := by simp [hx1]
          clear hx4
          rcases ho with rfl | rfl
          · go_wp2_with fail
            go_quiet (fail)
            go_wp2
            go_roundw
            case rel => exact ⟨k + 1, by omega, by go_num, HeldL.next (below_dn (Below.refl _ _) _) hS, hA.next (below_dn (Below.refl _ _) _)⟩
            case measure => simp [intOf]; omega
          · go_wp2_with fail
            go_quiet (fail)
            go_wp2
            go_roundw
            case rel => exact ⟨k + 1, by omega, by go_num, HeldL.next (below_dn (Below.refl _ _) _) hS, hA.next (below_dn (Below.refl _ _) _)⟩
            case measure => simp [intOf]; omega
      · obtain rfl : k = q := by omega
        by_cases o12 : o = 12
        · subst o12
          go_wp2_with fail
          go_ret
          exact ⟨rfl, hS.below⟩
        by_cases o9 : o = 9
        · subst o9
          go_wp2_with fail
          go_ret
          exact ⟨rfl, hS.below⟩
        · obtain ⟨j, hj, hjz⟩ := F5.out o12 o9
          have ob : (o == 12) = false := by simp [o12]
          have oc : (o == 9) = false := by simp [o9]
          have hjS : Hid (zs.getD j 0 = n + 1) := hjz
          clear hjz
          go_wp2_with fail
          refine (owHasI _ _ _ _ _ j _ zs _ hq.out hlen hA hj hjS.out).mono ?_
          rintro e w9 ⟨rfl, b9⟩
          have H9 := hS.next b9
          go_wp2_with fail
          go_ret
          exact ⟨rfl, H9.below⟩

theorem contract (H : Type) (enc : TypeId × Value → H) (W : World) (base : Nat) (args : Array Value) (ds gs : List (DataW H)) (before : List MemPlace)
    (hval : ∀ (j : Nat) t v, Try.f3.params[j]? = some t → args[j]? = some v → Value.okWide Try.prog W .any base t v)
    (hW : DataW.Whole enc Try.prog Try.f3.params.toList Rows.fnInsNextSpec.vars false W args.toList ds gs before) :
    Calls Try.prog 3 args W fun e W' => ∃ v, e = .returned v ∧ Rows.fnInsNextSpec.post enc Try.prog Try.f3 false true false false W args v W' := by
  have hW' := hW
  obtain ⟨p, q, hA0, hV, rfl, hfz, hnd⟩ := hW
  have hA : DataW.TrodAll enc Try.prog W 0 (fun _ => true) true Try.f3.params.toList args.toList ds p := hA0
  rw [Try.params3] at hA hval
  obtain ⟨v0, vs0, d0, ds0, p0, q0, hargs, rfl, rfl, h0, r0'⟩ := trodAll_cons hA
  obtain ⟨rfl, rfl, rfl⟩ := trodAll_nil r0'
  obtain rfl : args = #[v0] := by cases args; simp_all
  obtain ⟨rfl, rfl⟩ := trodVars_none hV
  obtain ⟨a0, len0, cap0, rfl⟩ := okWide_slice Try.underlying22 (hval 0 22 v0 rfl rfl)
  have k0 := h0
  have lt0 : ∀ x ∈ p0, x.block < W.heap.size := by obtain ⟨m, hm⟩ := k0; exact DataW.trod_lt m _ _ _ hm
  obtain ⟨z0, hz0, r0⟩ : ∃ z : Nat → Int, (∀ i, 0 ≤ z i ∧ z i ≤ 255) ∧ Bytes W a0 len0 cap0 z := by
    obtain ⟨fuel, hf⟩ := h0
    rcases open_ints Try.underlying22 Try.underlying5 (by kernel_rfl) hf with ⟨hcs, _⟩ | ⟨x, l, c, zs, hcs, _, hl, hm, hz, _, hcell, hwz⟩
    · simp [Value.cells] at hcs
      obtain ⟨rfl, rfl, rfl⟩ := hcs
      exact ⟨fun _ => 0, fun _ => by simp, .inl rfl⟩
    · simp [Value.cells] at hcs
      obtain ⟨rfl, rfl, rfl⟩ := hcs
      exact bytes_of hl (by simpa using hz) hcell hwz
  clear hA0
  refine (walk a0 len0 cap0 z0 W hz0 r0).mono fun e W' ⟨he, bel⟩ => ?_
  subst he
  exact ⟨_, rfl, _, _, _, [], _, [], hW', trodAll_mk1 (shut_bool Try.underlying4 _), (trodAll_cons_mk (Below.trod laidOut (by kernel_rfl) (of_decide_eq_true (by kernel_rfl)) k0 bel lt0) trodAll_mk0), rfl, bel.frame _, fun h => by cases h⟩

set_option maxRecDepth 100000 in
theorem lifted (os : Os) (started : os.Started) (H : Type) (enc : TypeId × Value → H) :
    ReturnsInHanded {} Try.checked os 3 .any (Rows.fnInsNextSpec.pre6 enc Try.prog Try.f3 Rows.fnInsNextRow.domain false) (Rows.fnInsNextSpec.post enc Try.prog Try.f3 false true false false) := by
  refine returnsInHanded_of_change (C := Try.checked) own started (by kernel_rfl) Try.func3
    (ChangeSpec.witness6 (enc := enc) (C := Try.checked) false ⟨#[], #[.slice none 0 0], []⟩ 8 (by kernel_rfl) (by kernel_rfl) (by kernel_rfl) (by kernel_rfl)) ?_
  intro W base args ds gs before hval hW _ _
  exact contract H enc W base args ds gs before hval hW

theorem proved : Rows.FnInsNextSaid :=
  OpenClaim.holds_of_wide 3 Try.f3 rfl rfl rfl rfl rfl rfl rfl ⟨rfl, rfl, rfl, rfl, rfl⟩ rfl rfl rfl rfl rfl (by kernel_rfl) Try.func3 (by kernel_rfl)
    (of_decide_eq_true (by kernel_rfl)) (by unfold Func.isWrapper; first | (rw [if_pos (by decide +kernel)]; kernel_rfl) | (rw [if_neg (by decide +kernel)]; exact ⟨rfl, rfl⟩))
    (fun os started H enc _ => lifted os started H enc)
#print axioms proved
end Go.Proofs.Ytafikmgpiklgkaa.fnInsNext
