/- Whatever bytes are handed in, the law FnItvTight returns true: of the drawn op and two numbers ItvDo of bounds of one number each has one number, what NumDo tells, and is false just where NumDo is; a quotient of all numbers by 0 alone is none; and a drawn number is among all numbers. No condition. -/
import Derived.Test.YtacgfjekmcbedaaNums
import Derived.Test.YtacgfjekmcbedaaDo
import Derived.Test.YtacgfjekmcbedaaDraws
import Derived.Test.YtacgfjekmcbedaaItvI
import Derived.Test.YtacgfjekmcbedaaItvFoldI
import Derived.Test.YtacgfjekmcbedaaItvDivI
import Derived.Test.YtacgfjekmcbedaaItvDoI
import Derived.Deep.RegionHeld3
import Derived.Deep.DeepCutAuto
import Derived.WalkKit
import Derived.ProofKit
import Derived.OpenShut
import Derived.ShutString
import Derived.ChangeOld
import Derived.Below
namespace Go.Proofs.Ytacgfjekmcbedaa.fnItvTight
open Go.ChangeShapes Go.WideShapes Go.ChangeAt Go.RowKit
open Go.ChangeMaps (open_string shut_string)
set_option linter.unusedVariables false

theorem own : ownKnob Try.prog.godebug = none := by kernel_rfl
theorem laidOut : laidOutB Try.prog = true := by kernel_rfl

theorem fold_one {x : Int} (h : far x = true) : foldLo x x = wr x ∧ foldHi x x = wr x := by
  simp [foldLo, foldHi, foldOk, h]
theorem span_one (x : Int) : spanLo x x x x = x ∧ spanHi x x x x = x := by unfold spanLo spanHi; omega
theorem mul_far {a b : Int} (h1 : -32768 ≤ a) (h2 : a ≤ 32767) (h3 : -32768 ≤ b) (h4 : b ≤ 32767) : far (a * b) = true := by
  have h : (a * b).natAbs ≤ 32768 * 32768 := by
    rw [Int.natAbs_mul]
    exact Nat.mul_le_mul (by omega) (by omega)
  simp [far]
  omega
theorem tight {op a b : Int} (ha : okB a = true) (hb : okB b = true) : itvDoOk op a a b b = doOk op a b ∧ (doOk op a b = true → itvDoLo op a a b b = doN op a b ∧ itvDoHi op a a b b = doN op a b) := by
  have a1 := ok_lo ha
  have a2 := ok_hi ha
  have b1 := ok_lo hb
  have b2 := ok_hi hb
  have h2 : two a a b b = true := by simp [two, itvOk, ha, hb]
  by_cases h1 : op = 1
  · subst h1
    have k1 : itvDoOk 1 a a b b = true := by simp [itvDoOk, h2]
    have k2 : doOk 1 a b = true := by simp [doOk, ha, hb]
    obtain ⟨e1, e2⟩ := fold_one (x := a + b) (by simp [far]; omega)
    refine ⟨k1.trans k2.symm, fun _ => ?_⟩
    rw [itvDoLo, itvDoHi, doN, k1, k2]
    exact ⟨e1, e2⟩
  by_cases h2' : op = 2
  · subst h2'
    have k1 : itvDoOk 2 a a b b = true := by simp [itvDoOk, h2]
    have k2 : doOk 2 a b = true := by simp [doOk, ha, hb]
    obtain ⟨e1, e2⟩ := fold_one (x := a - b) (by simp [far]; omega)
    refine ⟨k1.trans k2.symm, fun _ => ?_⟩
    rw [itvDoLo, itvDoHi, doN, k1, k2]
    exact ⟨e1, e2⟩
  by_cases h3 : op = 3
  · subst h3
    have k1 : itvDoOk 3 a a b b = true := by simp [itvDoOk, h2]
    have k2 : doOk 3 a b = true := by simp [doOk, ha, hb]
    obtain ⟨e1, e2⟩ := fold_one (mul_far a1 a2 b1 b2)
    obtain ⟨s1, s2⟩ := span_one (a * b)
    refine ⟨k1.trans k2.symm, fun _ => ?_⟩
    rw [itvDoLo, itvDoHi, doN, k1, k2, s1, s2]
    exact ⟨e1, e2⟩
  by_cases h4 : op = 4
  · subst h4
    by_cases h0 : b = 0
    · subst h0
      have k1 : itvDoOk 4 a a 0 0 = false := by simp [itvDoOk]
      have k2 : doOk 4 a 0 = false := by simp [doOk]
      exact ⟨k1.trans k2.symm, fun h => by rw [k2] at h; cases h⟩
    · have k1 : itvDoOk 4 a a b b = true := by simp [itvDoOk, h2, h0]
      have k2 : doOk 4 a b = true := by simp [doOk, ha, hb, h0]
      have q := tdiv_small a b a1 (by omega)
      obtain ⟨e1, e2⟩ := fold_one (x := a.tdiv b) (by simp [far]; omega)
      obtain ⟨s1, s2⟩ := span_one (a.tdiv b)
      have d1 : divLo a a b b = a.tdiv b := by
        unfold divLo
        by_cases hp : 0 ≤ b
        · rw [if_pos hp, show max b 1 = b by omega]; exact s1
        · rw [if_neg hp, if_pos (by omega), show min b (-1) = b by omega]; exact s1
      have d2 : divHi a a b b = a.tdiv b := by
        unfold divHi
        by_cases hp : 0 ≤ b
        · rw [if_pos hp, show max b 1 = b by omega]; exact s2
        · rw [if_neg hp, if_pos (by omega), show min b (-1) = b by omega]; exact s2
      refine ⟨k1.trans k2.symm, fun _ => ?_⟩
      rw [itvDoLo, itvDoHi, doN, k1, k2, d1, d2]
      exact ⟨e1, e2⟩
  · have k1 : itvDoOk op a a b b = false := by simp [itvDoOk, h1, h2', h3, h4]
    have k2 : doOk op a b = false := by simp [doOk, h1, h2', h3, h4]
    exact ⟨k1.trans k2.symm, fun h => by rw [k2] at h; cases h⟩
theorem owOkT (w : World) : Calls Try.prog 14 #[] w fun e w' => e = .returned (.bool true) ∧ w' = w := by
  go_enter Try.func14, Try.ntmps14
  go_wp2_with (go_at_call 49; refine (okI _ _).mono ?_; rintro e w' ⟨rfl, rfl⟩)
  go_ret
  exact ⟨rfl, rfl⟩

set_option maxHeartbeats 8000000 in
theorem walk (a0 : Option Addr) (len0 cap0 : Nat) (z0 : Nat → Int) (w : World) (hz0 : ∀ i, 0 ≤ z0 i ∧ z0 i ≤ 255) (r0 : Bytes w a0 len0 cap0 z0) :
    Calls Try.prog 5 #[.slice a0 len0 cap0] w fun e w' => e = .returned (.bool true) ∧ Below w.heap.size w w' := by
  by_cases hl : len0 ≤ 1048576
  case neg =>
    have hi : (1048576 : Int) < (len0 : Int) := by omega
    go_enter Try.func5, Try.ntmps5
    go_wp2_with fail
    go_ret
    exact ⟨rfl, Below.refl _ _⟩
  have hi : ¬ (1048576 : Int) < (len0 : Int) := by omega
  go_enter Try.func5, Try.ntmps5
  go_wp2_with fail
  refine (drawDo a0 len0 cap0 z0 _ hz0 hl r0).mono ?_
  rintro e w1 ⟨op, a, b, rfl, b1⟩
  clear r0 hz0
  rcases Bool.eq_false_or_eq_true (okB a) with ha | ha
  case inr =>
    go_wp2_with (first | (go_at_call 23; refine (okS _ _).mono ?_; rintro e w' ⟨rfl, rfl⟩) | (go_at_call 14; refine (owOkT _).mono ?_; rintro e w' ⟨rfl, rfl⟩))
    go_ret
    exact ⟨rfl, b1⟩
  rcases Bool.eq_false_or_eq_true (okB b) with hb | hb
  case inr =>
    go_wp2_with (first | (go_at_call 23; refine (okS _ _).mono ?_; rintro e w' ⟨rfl, rfl⟩) | (go_at_call 14; refine (owOkT _).mono ?_; rintro e w' ⟨rfl, rfl⟩))
    go_ret
    exact ⟨rfl, b1⟩
  go_wp2_with (go_at_call 23; refine (okS _ _).mono ?_; rintro e w' ⟨rfl, rfl⟩)
  refine (doI op a b _).mono ?_
  rintro e w2 ⟨rfl, g2⟩
  have b2 := b1.trans (g2.mono b1.size)
  go_wp2_with fail
  refine (itvDoI op a a b b _).mono ?_
  rintro e w3 ⟨rfl, g3⟩
  have b3 := b2.trans (g3.mono b2.size)
  have T := tight (op := op) ha hb
  have hz : itvDoOk 4 (-32768) 32767 0 0 = false := by decide
  have ht : itvHas (-32768) 32767 a = true := by
    have := ok_lo ha
    have := ok_hi ha
    simp [itvHas, itvOk, okB]
    omega
  cases hok : doOk op a b
  · have f1 : itvDoOk op a a b b = false := T.1.trans hok
    clear T ha hb
    go_wp2_with fail
    refine (itvAllI _).mono ?_
    rintro e w4 ⟨rfl, g4⟩
    have b4 := (b3.alloc b3.size _).trans (g4.mono (Nat.le_trans b3.size (by simp)))
    go_wp2_with fail
    refine (itvDoI _ _ _ _ _ _).mono ?_
    rintro e w5 ⟨rfl, g5⟩
    have b5 := b4.trans (g5.mono b4.size)
    go_wp2_with (first | (go_at_call 24; refine (itvAllI _).mono ?_; rintro e w6 ⟨rfl, g6⟩; have b6 := (b5.alloc b5.size _).trans (g6.mono (Nat.le_trans b5.size (by simp)))) | (go_at_call 17; refine (itvHasI _ _ _ _).mono ?_; rintro e w7 ⟨rfl, g7⟩; have b7 := b6.trans (g7.mono b6.size)))
    all_goals go_ret
    all_goals exact ⟨ret_bool (by simp), b7⟩
  · have f1 : itvDoOk op a a b b = true := T.1.trans hok
    obtain ⟨f2, f3⟩ := T.2 hok
    clear T ha hb
    go_wp2_with fail
    refine (itvAllI _).mono ?_
    rintro e w4 ⟨rfl, g4⟩
    have b4 := (b3.alloc b3.size _).trans (g4.mono (Nat.le_trans b3.size (by simp)))
    have K : HeldL w3 [(w3.heap.size, [.int .i64 (doN op a b), .int .i64 (doN op a b)])] w4 := by
      exact HeldL.next g4 (HeldL.new (HeldL.nil w3))
    go_wp2_with fail
    refine (itvDoI _ _ _ _ _ _).mono ?_
    rintro e w5 ⟨rfl, g5⟩
    have b5 := b4.trans (g5.mono b4.size)
    have K5 := HeldL.next g5 K
    have c0 : ∀ o, (w5.alloc o).cell? ⟨w3.heap.size, 0, none⟩ = some (.int .i64 (doN op a b)) := fun o => (K5.alloc o).cell List.mem_cons_self (i := 0) rfl
    have c1 : ∀ o, (w5.alloc o).cell? ⟨w3.heap.size, 1, none⟩ = some (.int .i64 (doN op a b)) := fun o => (K5.alloc o).cell List.mem_cons_self (i := 1) rfl
    clear K K5 f2 f3
    go_wp2_with (first | (go_at_call 24; refine (itvAllI _).mono ?_; rintro e w6 ⟨rfl, g6⟩; have b6 := (b5.alloc b5.size _).trans (g6.mono (Nat.le_trans b5.size (by simp)))) | (go_at_call 17; refine (itvHasI _ _ _ _).mono ?_; rintro e w7 ⟨rfl, g7⟩; have b7 := b6.trans (g7.mono b6.size)))
    all_goals go_ret
    all_goals exact ⟨ret_bool (by simp), b7⟩

theorem contract (H : Type) (enc : TypeId × Value → H) (W : World) (base : Nat) (args : Array Value) (ds gs : List (DataW H)) (before : List MemPlace)
    (hval : ∀ (j : Nat) t v, Try.f5.params[j]? = some t → args[j]? = some v → Value.okWide Try.prog W .any base t v)
    (hW : DataW.Whole enc Try.prog Try.f5.params.toList Rows.fnItvTightSpec.vars false W args.toList ds gs before) :
    Calls Try.prog 5 args W fun e W' => ∃ v, e = .returned v ∧ Rows.fnItvTightSpec.post enc Try.prog Try.f5 false true false false W args v W' := by
  have hW' := hW
  obtain ⟨p, q, hA0, hV, rfl, hfz, hnd⟩ := hW
  have hA : DataW.TrodAll enc Try.prog W 0 (fun _ => true) true Try.f5.params.toList args.toList ds p := hA0
  rw [Try.params5] at hA hval
  obtain ⟨v0, vs0, d0, ds0, p0, q0, hargs, rfl, rfl, h0, r0'⟩ := trodAll_cons hA
  obtain ⟨rfl, rfl, rfl⟩ := trodAll_nil r0'
  obtain rfl : args = #[v0] := by cases args; simp_all
  obtain ⟨rfl, rfl⟩ := trodVars_none hV
  obtain ⟨a0, len0, cap0, rfl⟩ := okWide_slice Try.underlying22 (hval 0 22 v0 rfl rfl)
  have k0 := h0
  have lt0 : ∀ x ∈ p0, x.block < W.heap.size := by obtain ⟨m, hm⟩ := k0; exact DataW.trod_lt m _ _ _ hm
  obtain ⟨z0, hz0, r0⟩ : ∃ z : Nat → Int, (∀ i, 0 ≤ z i ∧ z i ≤ 255) ∧ Bytes W a0 len0 cap0 z := by
    obtain ⟨fuel, hf⟩ := h0
    rcases open_ints Try.underlying22 Try.underlying5 (by kernel_rfl) hf with ⟨hcs, _⟩ | ⟨x, l, c, zs, hcs, _, hl, hm, hz, _, hcell, hwz⟩
    · simp [Value.cells] at hcs
      obtain ⟨rfl, rfl, rfl⟩ := hcs
      exact ⟨fun _ => 0, fun _ => by simp, .inl rfl⟩
    · simp [Value.cells] at hcs
      obtain ⟨rfl, rfl, rfl⟩ := hcs
      exact bytes_of hl (by simpa using hz) hcell hwz
  clear hA0
  refine (walk a0 len0 cap0 z0 W hz0 r0).mono fun e W' ⟨he, bel⟩ => ?_
  subst he
  exact ⟨_, rfl, _, _, _, [], _, [], hW', trodAll_mk1 (shut_bool Try.underlying4 _), (trodAll_cons_mk (Below.trod laidOut (by kernel_rfl) (of_decide_eq_true (by kernel_rfl)) k0 bel lt0) trodAll_mk0), rfl, bel.frame _, fun h => by cases h⟩

set_option maxRecDepth 100000 in
theorem lifted (os : Os) (started : os.Started) (H : Type) (enc : TypeId × Value → H) :
    ReturnsInHanded {} Try.checked os 5 .any (Rows.fnItvTightSpec.pre6 enc Try.prog Try.f5 Rows.fnItvTightRow.domain false) (Rows.fnItvTightSpec.post enc Try.prog Try.f5 false true false false) := by
  refine returnsInHanded_of_change (C := Try.checked) own started (by kernel_rfl) Try.func5
    (ChangeSpec.witness6 (enc := enc) (C := Try.checked) false ⟨#[], #[.slice none 0 0], []⟩ 8 (by kernel_rfl) (by kernel_rfl) (by kernel_rfl) (by kernel_rfl)) ?_
  intro W base args ds gs before hval hW _ _
  exact contract H enc W base args ds gs before hval hW

theorem proved : Rows.FnItvTightSaid :=
  OpenClaim.holds_of_wide 5 Try.f5 rfl rfl rfl rfl rfl rfl rfl ⟨rfl, rfl, rfl, rfl, rfl⟩ rfl rfl rfl rfl rfl (by kernel_rfl) Try.func5 (by kernel_rfl)
    (of_decide_eq_true (by kernel_rfl)) (by unfold Func.isWrapper; first | (rw [if_pos (by decide +kernel)]; kernel_rfl) | (rw [if_neg (by decide +kernel)]; exact ⟨rfl, rfl⟩))
    (fun os started H enc _ => lifted os started H enc)
#print axioms proved
end Go.Proofs.Ytacgfjekmcbedaa.fnItvTight
