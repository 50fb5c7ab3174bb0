/- Whatever step and place are handed in, the law FnExactInsNext returns true: the program's InsNext answers as the model's, and its list is its own, behind another call too. No condition. -/
import Derived.Test.YtknnnhhopmfigaaOpen8
import Derived.Test.YtknnnhhopmfigaaNextS
import Derived.Test.YtknnnhhopmfigaaNextI
import Derived.Deep.RegionHeld3
import Derived.Deep.DeepCutAuto
import Derived.WalkKit
import Derived.ProofKit
import Derived.OpenShut
import Derived.ShutString
import Derived.ChangeOld
import Derived.Below
namespace Go.Proofs.Ytknnnhhopmfigaa.fnExactInsNext
open Go.ChangeShapes Go.WideShapes Go.ChangeAt Go.RowKit
open Go.ChangeMaps (open_string shut_string)
set_option linter.unusedVariables false

theorem own : ownKnob Try.prog.godebug = none := by kernel_rfl
theorem laidOut : laidOutB Try.prog = true := by kernel_rfl


set_option maxHeartbeats 8000000 in
theorem walk (z0_0 z1_0 z2_0 z3_0 z4_0 z5_0 z6_0 z7_0 : Int) (w0_0 : (Lit.int .i64 z0_0).wf = true) (w1_0 : (Lit.int .i64 z1_0).wf = true) (w2_0 : (Lit.int .i64 z2_0).wf = true) (w3_0 : (Lit.int .i64 z3_0).wf = true) (w4_0 : (Lit.int .i64 z4_0).wf = true) (w5_0 : (Lit.int .i64 z5_0).wf = true) (w6_0 : (Lit.int .i64 z6_0).wf = true) (w7_0 : (Lit.int .i64 z7_0).wf = true) (a1 : Int) (w1 : (Lit.int .i64 a1).wf = true) (w : World)  :
    Calls Try.prog 7 #[.agg #[.int .i64 z0_0, .int .i64 z1_0, .int .i64 z2_0, .int .i64 z3_0, .int .i64 z4_0, .int .i64 z5_0, .int .i64 z6_0, .int .i64 z7_0], .int .i64 a1] w fun e w' => e = .returned (.bool true) ∧ Below w.heap.size w w' := by
  go_enter Try.func7, Try.ntmps7
  have b0 : Below w.heap.size w (w.alloc (.cells #[.int .i64 z0_0, .int .i64 z1_0, .int .i64 z2_0, .int .i64 z3_0, .int .i64 z4_0, .int .i64 z5_0, .int .i64 z6_0, .int .i64 z7_0] 40)) := (Below.refl _ _).alloc (Nat.le_refl _) _
  obtain ⟨zs, hzs⟩ : ∃ zs, zs = insNext z0_0 z1_0 z2_0 z3_0 z4_0 z5_0 z6_0 z7_0 a1 := ⟨_, rfl⟩
  have hlen : zs.length < 1000000 := by rw [hzs]; exact next_len _ _ _ _ _ _ _ _ _
  have hzS : Hid (insNext z0_0 z1_0 z2_0 z3_0 z4_0 z5_0 z6_0 z7_0 a1 = zs) := hzs.symm
  clear hzs
  go_wp2_with fail
  refine (toIns _ _ _ _ _ _ _ _ _).mono ?_
  rintro e w1 ⟨rfl, h1⟩
  go_wp2_with fail
  refine (nextS _ _ _ _ _ _ _ _ _ _).mono ?_
  rintro e w2 ⟨v, rfl, hm, h2⟩
  rw [hzS.out] at hm
  obtain ⟨a, cap, g, rfl, ha⟩ := hm
  have h12 := below_tr h1 h2
  have b2 := below_tr b0 (W2 := w2) (by simpa using h12)
  obtain ⟨hc, hf⟩ := bcell h12
  go_wp2_with fail
  refine (toIns _ _ _ _ _ _ _ _ _).mono ?_
  rintro e w3 ⟨rfl, h3⟩
  go_wp2_with fail
  refine (nextI _ _ _ _ _ _ _ _ _ _).mono ?_
  rintro e w4 ⟨v, rfl, hm, h4⟩
  rw [hzS.out] at hm
  obtain ⟨a', cap', g', rfl, ha'⟩ := hm
  have h34 := below_tr h3 h4
  have b4 := below_tr b2 h34
  have A4 := ha.next h34
  have hg : 0 < zs.length → g < w3.heap.size := fun h => Nat.lt_of_lt_of_le (ha.lo h).2 h3.size
  clear hc hf
  go_wp2_with fail
  refine (eqInts _ _ _ _ _ _ _ _ _ zs _ rfl hlen ha' A4).mono ?_
  rintro e w5 ⟨rfl, h5⟩
  have A5 := A4.next h5
  have G5 := ha'.next h5
  have b5 := below_tr b4 h5
  go_wp2_with fail
  refine (markInts _ _ _ _ _ zs _ rfl hlen G5).mono ?_
  rintro e w6 ⟨rfl, G6, h6⟩
  have A6 := A5.nextB h6 hg
  have b6 := b5.trans (h6.mono (by have := below_tr b2 h3; exact this.size))
  go_wp2_with fail
  refine (heldInts _ _ _ _ _ (marks zs.length) _ (marks_len _) hlen G6 (fun j hj => marks_get hj)).mono ?_
  rintro e w7 ⟨rfl, h7⟩
  have A7 := A6.next h7
  have G7 := G6.next h7
  have b7 := below_tr b6 h7
  have n7 : ¬ (zs.length : Int) + 1 < 0 := by omega
  have hB : Below (w.alloc (.cells #[.int .i64 z0_0, .int .i64 z1_0, .int .i64 z2_0, .int .i64 z3_0, .int .i64 z4_0, .int .i64 z5_0, .int .i64 z6_0, .int .i64 z7_0] 40)).heap.size (w.alloc (.cells #[.int .i64 z0_0, .int .i64 z1_0, .int .i64 z2_0, .int .i64 z3_0, .int .i64 z4_0, .int .i64 z5_0, .int .i64 z6_0, .int .i64 z7_0] 40)) w7 := by
    have x3 := below_tr h12 h3
    have x5 := below_tr (below_tr x3 h4) h5
    exact below_tr (x5.trans (h6.mono x3.size)) h7
  obtain ⟨hc, hf⟩ := bcell hB
  go_wp2_with fail
  refine (toIns _ _ _ _ _ _ _ _ _).mono ?_
  rintro e w8 ⟨rfl, h8⟩
  go_wp2_with fail
  refine (nextI _ _ _ _ _ _ _ _ _ _).mono ?_
  rintro e w9 ⟨v, rfl, hm, h9⟩
  rw [hzS.out] at hm
  obtain ⟨a'', cap'', g'', rfl, ha''⟩ := hm
  have h89 := below_tr h8 h9
  have A9 := A7.next h89
  have G9 := G7.next h89
  have b9 := below_tr b7 h89
  clear hc hf
  go_wp2_with fail
  refine (eqInts _ _ _ _ _ _ _ _ _ zs _ rfl hlen ha'' A9).mono ?_
  rintro e w10 ⟨rfl, h10⟩
  have G10 := G9.next h10
  have b10 := below_tr b9 h10
  go_wp2_with fail
  refine (heldInts _ _ _ _ _ (marks zs.length) _ (marks_len _) hlen G10 (fun j hj => marks_get hj)).mono ?_
  rintro e w11 ⟨rfl, h11⟩
  have b11 := below_tr b10 h11
  go_wp2_with fail
  all_goals go_ret
  all_goals exact ⟨rfl, b11⟩

theorem contract (H : Type) (enc : TypeId × Value → H) (W : World) (base : Nat) (args : Array Value) (ds gs : List (DataW H)) (before : List MemPlace)
    (hval : ∀ (j : Nat) t v, Try.f7.params[j]? = some t → args[j]? = some v → Value.okWide Try.prog W .any base t v)
    (hW : DataW.Whole enc Try.prog Try.f7.params.toList Rows.fnExactInsNextSpec.vars false W args.toList ds gs before) :
    Calls Try.prog 7 args W fun e W' => ∃ v, e = .returned v ∧ Rows.fnExactInsNextSpec.post enc Try.prog Try.f7 false true false false W args v W' := by
  have hW' := hW
  obtain ⟨p, q, hA0, hV, rfl, hfz, hnd⟩ := hW
  have hA : DataW.TrodAll enc Try.prog W 0 (fun _ => true) true Try.f7.params.toList args.toList ds p := hA0
  rw [Try.params7] at hA hval
  obtain ⟨v0, vs0, d0, ds0, p0, q0, hargs, rfl, rfl, h0, r0'⟩ := trodAll_cons hA
  obtain ⟨v1, vs1, d1, ds1, p1, q1, rfl, rfl, rfl, h1, r1'⟩ := trodAll_cons r0'
  obtain ⟨rfl, rfl, rfl⟩ := trodAll_nil r1'
  obtain rfl : args = #[v0, v1] := by cases args; simp_all
  obtain ⟨rfl, rfl⟩ := trodVars_none hV
  have k0 := h0
  obtain ⟨z0_0, z1_0, z2_0, z3_0, z4_0, z5_0, z6_0, z7_0, rfl, rfl, rfl, w0_0, w1_0, w2_0, w3_0, w4_0, w5_0, w6_0, w7_0⟩ := open_ins (hval 0 40 v0 rfl rfl) h0
  obtain ⟨a1, rfl, rfl, rfl, w1⟩ := open_int Try.underlying3 (hval 1 3 v1 rfl rfl) h1
  clear hA0
  refine (walk z0_0 z1_0 z2_0 z3_0 z4_0 z5_0 z6_0 z7_0 w0_0 w1_0 w2_0 w3_0 w4_0 w5_0 w6_0 w7_0 a1 w1 W ).mono fun e W' ⟨he, bel⟩ => ?_
  subst he
  exact ⟨_, rfl, _, _, _, [], [], [], hW', trodAll_mk1 (shut_bool Try.underlying4 _), (trodAll_cons_mk (Below.trod laidOut (by kernel_rfl) (of_decide_eq_true (by kernel_rfl)) k0 bel (by simp)) (trodAll_cons_mk (shut_int Try.underlying3 w1) trodAll_mk0)), rfl, bel.frame _, fun h => by cases h⟩

set_option maxRecDepth 100000 in
theorem lifted (os : Os) (started : os.Started) (H : Type) (enc : TypeId × Value → H) :
    ReturnsInHanded {} Try.checked os 7 .any (Rows.fnExactInsNextSpec.pre6 enc Try.prog Try.f7 Rows.fnExactInsNextRow.domain false) (Rows.fnExactInsNextSpec.post enc Try.prog Try.f7 false true false false) := by
  refine returnsInHanded_of_change (C := Try.checked) own started (by kernel_rfl) Try.func7
    (ChangeSpec.witness6 (enc := enc) (C := Try.checked) false ⟨#[], #[.agg #[.int .i64 0, .int .i64 0, .int .i64 0, .int .i64 0, .int .i64 0, .int .i64 0, .int .i64 0, .int .i64 0], .int .i64 0], []⟩ 8 (by kernel_rfl) (by kernel_rfl) (by kernel_rfl) (by kernel_rfl)) ?_
  intro W base args ds gs before hval hW _ _
  exact contract H enc W base args ds gs before hval hW

theorem proved : Rows.FnExactInsNextSaid :=
  OpenClaim.holds_of_wide 7 Try.f7 rfl rfl rfl rfl rfl rfl rfl ⟨rfl, rfl, rfl, rfl, rfl⟩ rfl rfl rfl rfl rfl (by kernel_rfl) Try.func7 (by kernel_rfl)
    (of_decide_eq_true (by kernel_rfl)) (by unfold Func.isWrapper; first | (rw [if_pos (by decide +kernel)]; kernel_rfl) | (rw [if_neg (by decide +kernel)]; exact ⟨rfl, rfl⟩))
    (fun os started H enc _ => lifted os started H enc)
#print axioms proved
end Go.Proofs.Ytknnnhhopmfigaa.fnExactInsNext
