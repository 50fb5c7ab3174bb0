/- Whatever two ends and number are handed in, the law FnExactItvHas returns true: the program's ItvHas answers as the model's. No condition. -/
import Derived.Test.YtpgdefaiojjjfaaNums
import Derived.Test.YtpgdefaiojjjfaaHeld
import Derived.Test.YtpgdefaiojjjfaaItv
import Derived.Test.YtpgdefaiojjjfaaItvI
import Derived.Deep.RegionHeld3
import Derived.Deep.DeepCutAuto
import Derived.WalkKit
import Derived.ProofKit
import Derived.OpenShut
import Derived.ShutString
import Derived.ChangeOld
import Derived.Below
import Derived.Lib.SmallJoins
namespace Go.Proofs.Ytpgdefaiojjjfaa.fnExactItvHas
open Go.ChangeShapes Go.WideShapes Go.ChangeAt Go.RowKit
open Go.ChangeMaps (open_string shut_string)
set_option linter.unusedVariables false

theorem own : ownKnob Try.prog.godebug = none := by kernel_rfl
theorem laidOut : laidOutB Try.prog = true := by kernel_rfl


set_option maxHeartbeats 8000000 in
theorem walk (lo0 hi0 : Int) (wl0 : (Lit.int .i64 lo0).wf = true) (wh0 : (Lit.int .i64 hi0).wf = true) (a1 : Int) (w1 : (Lit.int .i64 a1).wf = true) (w : World)  :
    Calls Try.prog 5 #[.agg #[.int .i64 lo0, .int .i64 hi0], .int .i64 a1] w fun e w' => e = .returned (.bool true) ∧ Below w.heap.size w w' := by
  go_enter Try.func5, Try.ntmps5
  go_wp2_with fail
  have H0 : HeldL w [(w.heap.size, [.int .i64 lo0, .int .i64 hi0])] (w.alloc (.cells #[.int .i64 lo0, .int .i64 hi0] 23)) := HeldL.new (HeldL.nil w)
  refine (toItv _ _ _).mono ?_
  rintro e v1 ⟨rfl, h1⟩
  have H1 := HeldL.next h1 H0
  go_wp2_with fail
  refine (itvHasS _ _ _ _).mono ?_
  rintro e v2 ⟨rfl, h2⟩
  have H2 := HeldL.next h2 H1
  have c0 : v2.cell? ⟨w.heap.size, 0, none⟩ = some (.int .i64 lo0) := H2.cell List.mem_cons_self (i := 0) rfl
  have c1 : v2.cell? ⟨w.heap.size, 1, none⟩ = some (.int .i64 hi0) := H2.cell List.mem_cons_self (i := 1) rfl
  go_wp2_with fail
  refine (toItv _ _ _).mono ?_
  rintro e v3 ⟨rfl, h3⟩
  have H3 := HeldL.next h3 H2
  go_wp2_with fail
  refine (itvHasI _ _ _ _).mono ?_
  rintro e v4 ⟨rfl, h4⟩
  have H4 := HeldL.next h4 H3
  go_wp2_with fail
  all_goals go_ret
  all_goals exact ⟨ret_bool (by simp), H4.below⟩

theorem contract (H : Type) (enc : TypeId × Value → H) (W : World) (base : Nat) (args : Array Value) (ds gs : List (DataW H)) (before : List MemPlace)
    (hval : ∀ (j : Nat) t v, Try.f5.params[j]? = some t → args[j]? = some v → Value.okWide Try.prog W .any base t v)
    (hW : DataW.Whole enc Try.prog Try.f5.params.toList Rows.fnExactItvHasSpec.vars false W args.toList ds gs before) :
    Calls Try.prog 5 args W fun e W' => ∃ v, e = .returned v ∧ Rows.fnExactItvHasSpec.post enc Try.prog Try.f5 false true false false W args v W' := by
  have hW' := hW
  obtain ⟨p, q, hA0, hV, rfl, hfz, hnd⟩ := hW
  have hA : DataW.TrodAll enc Try.prog W 0 (fun _ => true) true Try.f5.params.toList args.toList ds p := hA0
  rw [Try.params5] at hA hval
  obtain ⟨v0, vs0, d0, ds0, p0, q0, hargs, rfl, rfl, h0, r0'⟩ := trodAll_cons hA
  obtain ⟨v1, vs1, d1, ds1, p1, q1, rfl, rfl, rfl, h1, r1'⟩ := trodAll_cons r0'
  obtain ⟨rfl, rfl, rfl⟩ := trodAll_nil r1'
  obtain rfl : args = #[v0, v1] := by cases args; simp_all
  obtain ⟨rfl, rfl⟩ := trodVars_none hV
  obtain ⟨c00, c10, y00, y10, m0, rfl, rfl, rfl, hy00, hy10⟩ := Joins.open_agg2 Try.underlying23 (by kernel_rfl) (by kernel_rfl) (hval 0 23 v0 rfl rfl) h0
  obtain ⟨lo0, e00, rfl, wl0⟩ := DataW.trod_int Try.underlying3 hy00
  obtain ⟨hi0, e10, rfl, wh0⟩ := DataW.trod_int Try.underlying3 hy10
  simp at e00 e10
  subst e00 e10
  obtain ⟨a1, rfl, rfl, rfl, w1⟩ := open_int Try.underlying3 (hval 1 3 v1 rfl rfl) h1
  clear hA0
  refine (walk lo0 hi0 wl0 wh0 a1 w1 W ).mono fun e W' ⟨he, bel⟩ => ?_
  subst he
  exact ⟨_, rfl, _, _, _, [], [], [], hW', trodAll_mk1 (shut_bool Try.underlying4 _), (trodAll_cons_mk (Joins.shut_agg2 (y0 := (.lit (.int .i64 lo0), [])) (y1 := (.lit (.int .i64 hi0), [])) Try.underlying23 (by kernel_rfl) (by kernel_rfl) ⟨1, by simp [DataW.trod, Try.underlying3, wl0]⟩ ⟨1, by simp [DataW.trod, Try.underlying3, wh0]⟩) (trodAll_cons_mk (shut_int Try.underlying3 w1) trodAll_mk0)), rfl, bel.frame _, fun h => by cases h⟩

set_option maxRecDepth 100000 in
theorem lifted (os : Os) (started : os.Started) (H : Type) (enc : TypeId × Value → H) :
    ReturnsInHanded {} Try.checked os 5 .any (Rows.fnExactItvHasSpec.pre6 enc Try.prog Try.f5 Rows.fnExactItvHasRow.domain false) (Rows.fnExactItvHasSpec.post enc Try.prog Try.f5 false true false false) := by
  refine returnsInHanded_of_change (C := Try.checked) own started (by kernel_rfl) Try.func5
    (ChangeSpec.witness6 (enc := enc) (C := Try.checked) false ⟨#[], #[.agg #[.int .i64 0, .int .i64 0], .int .i64 0], []⟩ 8 (by kernel_rfl) (by kernel_rfl) (by kernel_rfl) (by kernel_rfl)) ?_
  intro W base args ds gs before hval hW _ _
  exact contract H enc W base args ds gs before hval hW

theorem proved : Rows.FnExactItvHasSaid :=
  OpenClaim.holds_of_wide 5 Try.f5 rfl rfl rfl rfl rfl rfl rfl ⟨rfl, rfl, rfl, rfl, rfl⟩ rfl rfl rfl rfl rfl (by kernel_rfl) Try.func5 (by kernel_rfl)
    (of_decide_eq_true (by kernel_rfl)) (by unfold Func.isWrapper; first | (rw [if_pos (by decide +kernel)]; kernel_rfl) | (rw [if_neg (by decide +kernel)]; exact ⟨rfl, rfl⟩))
    (fun os started H enc _ => lifted os started H enc)
#print axioms proved
end Go.Proofs.Ytpgdefaiojjjfaa.fnExactItvHas
