/- Whatever program is handed in, the law FnExactPrgSize returns true: the program's PrgSize answers as the model's, and turns nothing of its argument. No condition. -/
import Derived.Test.YtndedplmcjfgeaaOpenPrg
import Derived.Test.YtndedplmcjfgeaaPrgAtI
import Derived.Deep.RegionHeld3
import Derived.Deep.DeepCutAuto
import Derived.WalkKit
import Derived.ProofKit
import Derived.OpenShut
import Derived.ShutString
import Derived.ChangeOld
import Derived.Below
namespace Go.Proofs.Ytndedplmcjfgeaa.fnExactPrgSize
open Go.ChangeShapes Go.WideShapes Go.ChangeAt Go.RowKit
open Go.ChangeMaps (open_string shut_string)
set_option linter.unusedVariables false

theorem own : ownKnob Try.prog.godebug = none := by kernel_rfl
theorem laidOut : laidOutB Try.prog = true := by kernel_rfl


set_option maxHeartbeats 8000000 in
theorem walk (a0 : Option Addr) (m0 cap0 b0 off0 : Nat) (P0 : Nat → Proc) (S0 : Nat → Spot) (hm0 : m0 ≤ maxLen) (hn0 : ∀ i, i < m0 → (P0 i).n ≤ maxLen) (w : World) (r0 : ProcsAt a0 b0 off0 m0 P0 S0 w) :
    Calls Try.prog 3 #[.agg #[.slice a0 m0 cap0]] w fun e w' => e = .returned (.bool true) ∧ Below w.heap.size w w' := by
  have bb0 : Below w.heap.size w (w.alloc (.cells #[.slice a0 m0 cap0] 24)) := (Below.refl w.heap.size w).alloc (Nat.le_refl _) _
  have p0 := r0.next bb0
  clear r0
  go_enter Try.func3, Try.ntmps3
  go_wp2_with fail
  refine (szPrg _ _ _ _ _ _ _ _ hm0 p0 hn0).mono ?_
  rintro e w1 ⟨q, rfl, hq, h1⟩
  have p1 := p0.next h1
  have b1 := below_tr bb0 h1
  rcases hq with rfl | ⟨hsz, hq0⟩
  · clear p0 p1 hn0
    go_wp2_with fail
    go_ret
    exact ⟨rfl, b1⟩
  have hm : m0 ≤ 1048576 := by omega
  have hs1 : sizeTo P0 m0 ≤ 1048576 := by omega
  have hnn : ∀ i, i < m0 → (P0 i).n ≤ 1048576 := fun i hi => by have := sizeTo_le (P := P0) hi; omega
  have hq' : ¬ q < 0 := by omega
  obtain ⟨hc, hf⟩ := bcell h1
  go_wp2_with fail
  refine (toPrg _ _ _ _ _ _ _ _ hm hnn p1).mono ?_
  rintro e w2 ⟨g2, R2, rfl, g2a, g2b, P2, _, _, h2⟩
  have h12 := below_tr h1 h2
  go_wp2_with fail
  refine (prgSizeS _ _ _ _ _ _ _ _ hm hs1 P2).mono ?_
  rintro e w3 ⟨rfl, h3⟩
  have h13 := below_tr h12 h3
  clear hc hf
  obtain ⟨hc, hf⟩ := bcell h13
  have p3 := p0.next h13
  go_wp2_with fail
  refine (toPrg _ _ _ _ _ _ _ _ hm hnn p3).mono ?_
  rintro e w4 ⟨g4, R4, rfl, g4a, g4b, P4, _, C4', h4⟩
  have h14 := below_tr h13 h4
  have b4 := below_tr bb0 h14
  have s4 := h14.size
  have k5 : Below w4.heap.size w4 (w4.alloc (.cells #[.slice (some ⟨g4, 0, none⟩) m0 m0] 29)) := (Below.refl _ _).alloc (Nat.le_refl _) _
  have P5 := P4.next k5
  have x5 : HeldP w w4.heap.size w.heap.size a0 b0 off0 m0 cap0 P0 S0 g4 R4 (w4.alloc (.cells #[.slice (some ⟨g4, 0, none⟩) m0 m0] 29)) := by
    have h15 := below_tr h14 k5
    refine ⟨below_tr bb0 h15, by simp, ?_, Nat.lt_of_lt_of_le g4b k5.size, by simp [go_sem], ?_, p0.next h15, P5⟩
    · have := h15.size; simp at this; simp; omega
    · rw [(bcell h15).1 w.heap.size 0 (by simp)]; simp [go_sem]
  clear hc hf P4
  go_wp2_with fail
  refine (prgSizeI _ _ _ _ _ _ _ _ hm hs1 P5).mono ?_
  rintro e w6 ⟨rfl, h6⟩
  have x6 := x5.next h6
  clear p0 p1 p3 P2 P5 x5 hn0 h13 h14 h12 k5
  go_wp2_with fail
  generalize w4.heap.size = X at x6 ⊢
  generalize w.heap.size = Y at x6 ⊢
  go_region_held3 (fun W => W.cell? ⟨X, 0, none⟩ = some (.slice (some ⟨g4, 0, none⟩) m0 m0) ∧ W.cell? ⟨Y, 0, none⟩ = some (.slice a0 m0 cap0) ∧ HeldP w X Y a0 b0 off0 m0 cap0 P0 S0 g4 R4 W) (first | exact KP.of x6.drew | exact KP.of hH | exact KP.of hH2 | go_keep) (first | (go_at_call 12; refine (toPrg _ _ _ _ _ _ _ _ hm hnn (HeldP.pa (KP.held (by assumption)))).mono ?_; rintro e w7 ⟨g7, R7, rfl, g7a, g7b, P7, _, C7, h7⟩; have hH := HeldP.next (KP.held (by assumption)) h7) | (go_at_call 14; refine (eqPrg _ _ _ _ _ _ _ hm hnn ⟨hH.lg, g7b⟩ hH.px P7 C4' C7).mono ?_; rintro e w8 ⟨rfl, h8⟩; have hH2 := hH.next h8))
  all_goals (go_wp2_with fail)
  all_goals go_ret
  all_goals exact ⟨rfl, hH2.below⟩

set_option maxRecDepth 100000 in
theorem contract (H : Type) (enc : TypeId × Value → H) (W : World) (base : Nat) (args : Array Value) (ds gs : List (DataW H)) (before : List MemPlace)
    (hval : ∀ (j : Nat) t v, Try.f3.params[j]? = some t → args[j]? = some v → Value.okWide Try.prog W .any base t v)
    (hW : DataW.Whole enc Try.prog Try.f3.params.toList Rows.fnExactPrgSizeSpec.vars false W args.toList ds gs before) :
    Calls Try.prog 3 args W fun e W' => ∃ v, e = .returned v ∧ Rows.fnExactPrgSizeSpec.post enc Try.prog Try.f3 false true false false W args v W' := by
  have hW' := hW
  obtain ⟨p, q, hA0, hV, rfl, hfz, hnd⟩ := hW
  have hA : DataW.TrodAll enc Try.prog W 0 (fun _ => true) true Try.f3.params.toList args.toList ds p := hA0
  rw [Try.params3] at hA hval
  obtain ⟨v0, vs0, d0, ds0, p0, q0, hargs, rfl, rfl, h0, r0'⟩ := trodAll_cons hA
  obtain ⟨rfl, rfl, rfl⟩ := trodAll_nil r0'
  obtain rfl : args = #[v0] := by cases args; simp_all
  obtain ⟨rfl, rfl⟩ := trodVars_none hV
  have k0 := h0
  have lt0 : ∀ x ∈ p0, x.block < W.heap.size := by obtain ⟨m, hm⟩ := k0; exact DataW.trod_lt m _ _ _ hm
  obtain ⟨a0, m0, cap0, rfl, hm0, hn0, r0⟩ := open_prog (hval 0 24 v0 rfl rfl) h0
  clear hA0
  refine (walk a0 m0 cap0 _ _ _ _ hm0 hn0 W r0).mono fun e W' ⟨he, bel⟩ => ?_
  subst he
  exact ⟨_, rfl, _, _, _, [], _, [], hW', trodAll_mk1 (shut_bool Try.underlying4 _), (trodAll_cons_mk (Below.trod laidOut (by kernel_rfl) (of_decide_eq_true (by kernel_rfl)) k0 bel lt0) trodAll_mk0), rfl, bel.frame _, fun h => by cases h⟩

set_option maxRecDepth 100000 in
theorem lifted (os : Os) (started : os.Started) (H : Type) (enc : TypeId × Value → H) :
    ReturnsInHanded {} Try.checked os 3 .any (Rows.fnExactPrgSizeSpec.pre6 enc Try.prog Try.f3 Rows.fnExactPrgSizeRow.domain false) (Rows.fnExactPrgSizeSpec.post enc Try.prog Try.f3 false true false false) := by
  refine returnsInHanded_of_change (C := Try.checked) own started (by kernel_rfl) Try.func3
    (ChangeSpec.witness6 (enc := enc) (C := Try.checked) false ⟨#[], #[.agg #[.slice none 0 0]], []⟩ 8 (by kernel_rfl) (by kernel_rfl) (by kernel_rfl) (by kernel_rfl)) ?_
  intro W base args ds gs before hval hW _ _
  exact contract H enc W base args ds gs before hval hW

theorem proved : Rows.FnExactPrgSizeSaid :=
  OpenClaim.holds_of_wide 3 Try.f3 rfl rfl rfl rfl rfl rfl rfl ⟨rfl, rfl, rfl, rfl, rfl⟩ rfl rfl rfl rfl rfl (by kernel_rfl) Try.func3 (by kernel_rfl)
    (of_decide_eq_true (by kernel_rfl)) (by unfold Func.isWrapper; first | (rw [if_pos (by decide +kernel)]; kernel_rfl) | (rw [if_neg (by decide +kernel)]; exact ⟨rfl, rfl⟩))
    (fun os started H enc _ => lifted os started H enc)
#print axioms proved
end Go.Proofs.Ytndedplmcjfgeaa.fnExactPrgSize
