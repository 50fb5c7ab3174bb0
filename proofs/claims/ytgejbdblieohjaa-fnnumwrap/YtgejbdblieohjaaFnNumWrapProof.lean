/- Whatever bytes are handed in, the law FnNumWrap returns true: of the drawn int what NumWrap answers is the model's, is a number, the same mod 65536, and of a number that number. No condition. -/
import Derived.Test.YtgejbdblieohjaaNums
import Derived.Test.YtgejbdblieohjaaDraws
import Derived.WalkKit
import Derived.ProofKit
import Derived.OpenShut
import Derived.ShutString
import Derived.ChangeOld
import Derived.Below
namespace Go.Proofs.Ytgejbdblieohjaa.fnNumWrap
open Go.ChangeShapes Go.WideShapes Go.ChangeAt Go.RowKit
open Go.ChangeMaps (open_string shut_string)
set_option linter.unusedVariables false

theorem own : ownKnob Try.prog.godebug = none := by kernel_rfl
theorem laidOut : laidOutB Try.prog = true := by kernel_rfl

def nm (n : Int) : Int := n % 65536
theorem nm_wr (n : Int) : nm (wr n) = nm n := by unfold nm wr; omega
theorem ok_wr (n : Int) : okB (wr n) = true := by
  unfold okB
  simp only [Bool.and_eq_true, decide_eq_true_eq]
  unfold wr
  omega
theorem wr_ok {n : Int} (h : okB n = true) : wr n = n := by have := ok_lo h; have := ok_hi h; unfold wr; omega

theorem norm (n : Int) (w : World) :
    Calls Try.prog 9 #[.int .i64 n] w fun e w' => e = .returned (.int .i64 (nm n)) ∧ w' = w := by
  have hl : n.tmod 65536 < 65536 := Int.tmod_lt_of_pos _ (by omega)
  have hg : -65536 < n.tmod 65536 := by
    by_cases h : 0 ≤ n
    · rw [tm_pos n h]; omega
    · rw [tm_neg n (by omega)]; omega
  go_enter Try.func9, Try.ntmps9
  go_wp2
  all_goals go_ret
  all_goals refine ⟨ret_int ?_, rfl⟩
  all_goals unfold nm
  all_goals (by_cases h : 0 ≤ n)
  all_goals first | rw [tm_pos n h] at * | rw [tm_neg n (by omega)] at *
  all_goals omega

theorem walk (a0 : Option Addr) (len0 cap0 : Nat) (z0 : Nat → Int) (w : World) (hz0 : ∀ i, 0 ≤ z0 i ∧ z0 i ≤ 255) (r0 : Bytes w a0 len0 cap0 z0) :
    Calls Try.prog 3 #[.slice a0 len0 cap0] w fun e w' => e = .returned (.bool true) ∧ Below w.heap.size w w' := by
  by_cases hl : len0 ≤ 1048576
  case neg =>
    have hi : (1048576 : Int) < (len0 : Int) := by omega
    go_enter Try.func3, Try.ntmps3
    go_wp2_with fail
    go_ret
    exact ⟨rfl, Below.refl _ _⟩
  have hi : ¬ (1048576 : Int) < (len0 : Int) := by omega
  go_enter Try.func3, Try.ntmps3
  go_wp2_with fail
  refine (drawWrap a0 len0 cap0 z0 _ hz0 hl r0).mono ?_
  rintro e w1 ⟨n, -, -, rfl, hbel⟩
  have f1 := ok_wr n
  have f2 := nm_wr n
  rcases Bool.eq_false_or_eq_true (okB n) with h | h
  · have f3 := wr_ok h
    rw [f3] at f1 f2
    clear f2
    go_wp2_with (first | (go_at_call 6; refine (wrapI _ _).mono ?_; rintro e w' ⟨rfl, rfl⟩) | (go_at_call 7; refine (wrapS _ _).mono ?_; rintro e w' ⟨rfl, rfl⟩) | (go_at_call 8; refine (okI _ _).mono ?_; rintro e w' ⟨rfl, rfl⟩) | (go_at_call 9; refine (norm _ _).mono ?_; rintro e w' ⟨rfl, rfl⟩))
    go_ret
    exact ⟨rfl, hbel⟩
  · go_wp2_with (first | (go_at_call 6; refine (wrapI _ _).mono ?_; rintro e w' ⟨rfl, rfl⟩) | (go_at_call 7; refine (wrapS _ _).mono ?_; rintro e w' ⟨rfl, rfl⟩) | (go_at_call 8; refine (okI _ _).mono ?_; rintro e w' ⟨rfl, rfl⟩) | (go_at_call 9; refine (norm _ _).mono ?_; rintro e w' ⟨rfl, rfl⟩))
    go_ret
    exact ⟨rfl, hbel⟩

theorem contract (H : Type) (enc : TypeId × Value → H) (W : World) (base : Nat) (args : Array Value) (ds gs : List (DataW H)) (before : List MemPlace)
    (hval : ∀ (j : Nat) t v, Try.f3.params[j]? = some t → args[j]? = some v → Value.okWide Try.prog W .any base t v)
    (hW : DataW.Whole enc Try.prog Try.f3.params.toList Rows.fnNumWrapSpec.vars false W args.toList ds gs before) :
    Calls Try.prog 3 args W fun e W' => ∃ v, e = .returned v ∧ Rows.fnNumWrapSpec.post enc Try.prog Try.f3 false true false false W args v W' := by
  have hW' := hW
  obtain ⟨p, q, hA0, hV, rfl, hfz, hnd⟩ := hW
  have hA : DataW.TrodAll enc Try.prog W 0 (fun _ => true) true Try.f3.params.toList args.toList ds p := hA0
  rw [Try.params3] at hA hval
  obtain ⟨v0, vs0, d0, ds0, p0, q0, hargs, rfl, rfl, h0, r0'⟩ := trodAll_cons hA
  obtain ⟨rfl, rfl, rfl⟩ := trodAll_nil r0'
  obtain rfl : args = #[v0] := by cases args; simp_all
  obtain ⟨rfl, rfl⟩ := trodVars_none hV
  obtain ⟨a0, len0, cap0, rfl⟩ := okWide_slice Try.underlying22 (hval 0 22 v0 rfl rfl)
  have k0 := h0
  have lt0 : ∀ x ∈ p0, x.block < W.heap.size := by obtain ⟨m, hm⟩ := k0; exact DataW.trod_lt m _ _ _ hm
  obtain ⟨z0, hz0, r0⟩ : ∃ z : Nat → Int, (∀ i, 0 ≤ z i ∧ z i ≤ 255) ∧ Bytes W a0 len0 cap0 z := by
    obtain ⟨fuel, hf⟩ := h0
    rcases open_ints Try.underlying22 Try.underlying5 (by kernel_rfl) hf with ⟨hcs, _⟩ | ⟨x, l, c, zs, hcs, _, hl, hm, hz, _, hcell, hwz⟩
    · simp [Value.cells] at hcs
      obtain ⟨rfl, rfl, rfl⟩ := hcs
      exact ⟨fun _ => 0, fun _ => by simp, .inl rfl⟩
    · simp [Value.cells] at hcs
      obtain ⟨rfl, rfl, rfl⟩ := hcs
      exact bytes_of hl (by simpa using hz) hcell hwz
  clear hA0
  refine (walk a0 len0 cap0 z0 W hz0 r0).mono fun e W' ⟨he, bel⟩ => ?_
  subst he
  exact ⟨_, rfl, _, _, _, [], _, [], hW', trodAll_mk1 (shut_bool Try.underlying4 _), (trodAll_cons_mk (Below.trod laidOut (by kernel_rfl) (of_decide_eq_true (by kernel_rfl)) k0 bel lt0) trodAll_mk0), rfl, bel.frame _, fun h => by cases h⟩

set_option maxRecDepth 100000 in
theorem lifted (os : Os) (started : os.Started) (H : Type) (enc : TypeId × Value → H) :
    ReturnsInHanded {} Try.checked os 3 .any (Rows.fnNumWrapSpec.pre6 enc Try.prog Try.f3 Rows.fnNumWrapRow.domain false) (Rows.fnNumWrapSpec.post enc Try.prog Try.f3 false true false false) := by
  refine returnsInHanded_of_change (C := Try.checked) own started (by kernel_rfl) Try.func3
    (ChangeSpec.witness6 (enc := enc) (C := Try.checked) false ⟨#[], #[.slice none 0 0], []⟩ 8 (by kernel_rfl) (by kernel_rfl) (by kernel_rfl) (by kernel_rfl)) ?_
  intro W base args ds gs before hval hW _ _
  exact contract H enc W base args ds gs before hval hW

theorem proved : Rows.FnNumWrapSaid :=
  OpenClaim.holds_of_wide 3 Try.f3 rfl rfl rfl rfl rfl rfl rfl ⟨rfl, rfl, rfl, rfl, rfl⟩ rfl rfl rfl rfl rfl (by kernel_rfl) Try.func3 (by kernel_rfl)
    (of_decide_eq_true (by kernel_rfl)) (by unfold Func.isWrapper; first | (rw [if_pos (by decide +kernel)]; kernel_rfl) | (rw [if_neg (by decide +kernel)]; exact ⟨rfl, rfl⟩))
    (fun os started H enc _ => lifted os started H enc)
#print axioms proved
end Go.Proofs.Ytgejbdblieohjaa.fnNumWrap
