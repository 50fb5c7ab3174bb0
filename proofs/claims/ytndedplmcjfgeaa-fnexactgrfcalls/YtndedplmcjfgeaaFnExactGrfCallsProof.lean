/- Whatever program is handed in (and whatever number), the law FnExactGrfCalls returns true: the program's GrfCalls answers as the model's, its list is its own, behind another call too, and it turns nothing of its argument. No condition. Of programs of more than 1048576 entries the law itself answers true. -/
import Derived.Test.YtndedplmcjfgeaaOpenPrg
import Derived.Test.YtndedplmcjfgeaaPrgAtI
import Derived.Test.YtndedplmcjfgeaaMarks
import Derived.Test.YtndedplmcjfgeaaLst
import Derived.Test.YtndedplmcjfgeaaGrfS2
import Derived.Test.YtndedplmcjfgeaaGrfI2
import Derived.Deep.RegionHeld3
import Derived.Deep.DeepCutAuto
import Derived.WalkKit
import Derived.ProofKit
import Derived.OpenShut
import Derived.ShutString
import Derived.ChangeOld
import Derived.Below
namespace Go.Proofs.Ytndedplmcjfgeaa.fnExactGrfCalls
open Go.ChangeShapes Go.WideShapes Go.ChangeAt Go.RowKit
open Go.ChangeMaps (open_string shut_string)
set_option linter.unusedVariables false

theorem own : ownKnob Try.prog.godebug = none := by kernel_rfl
theorem laidOut : laidOutB Try.prog = true := by kernel_rfl


set_option maxRecDepth 10000 in
set_option maxHeartbeats 8000000 in
theorem walk (a0 : Option Addr) (m0 cap0 b0 off0 : Nat) (P0 : Nat → Proc) (S0 : Nat → Spot) (hm0 : m0 ≤ maxLen) (hn0 : ∀ i, i < m0 → (P0 i).n ≤ maxLen) (a1 : Int) (w1 : (Lit.int .i64 a1).wf = true) (w : World) (r0 : ProcsAt a0 b0 off0 m0 P0 S0 w) :
    Calls Try.prog 9 #[.agg #[.slice a0 m0 cap0], .int .i64 a1] w fun e w' => e = .returned (.bool true) ∧ Below w.heap.size w w' := by
  obtain ⟨zs, hzs⟩ : ∃ zs, zs = grfCalls P0 m0 a1 := ⟨_, rfl⟩
  have hlen : zs.length < 1000000 := by rw [hzs]; exact Nat.lt_of_le_of_lt (grfCalls_len _ _ _) (by omega)
  have hzS : Hid (grfCalls P0 m0 a1 = zs) := hzs.symm
  clear hzs
  have bb0 : Below w.heap.size w (w.alloc (.cells #[.slice a0 m0 cap0] 24)) := (Below.refl w.heap.size w).alloc (Nat.le_refl _) _
  have p0 := r0.next bb0
  go_enter Try.func9, Try.ntmps9
  go_wp2_with fail
  refine (szPrg _ _ _ _ _ _ _ _ hm0 p0 hn0).mono ?_
  rintro e w1 ⟨q, rfl, hq, h1⟩
  have p1 := p0.next h1
  have b1 := below_tr bb0 h1
  rcases hq with rfl | ⟨hsz, hq0⟩
  · clear p0 p1 hn0 r0
    go_wp2_with fail
    go_ret
    exact ⟨rfl, b1⟩
  have hm : m0 ≤ 1048576 := by omega
  have hs1 : sizeTo P0 m0 ≤ 1048576 := by omega
  have hnn : ∀ i, i < m0 → (P0 i).n ≤ 1048576 := fun i hi => by have := sizeTo_le (P := P0) hi; omega
  have hq' : ¬ q < 0 := by omega
  obtain ⟨hc, hf⟩ := bcell h1
  go_wp2_with fail
  refine (toPrg _ _ _ _ _ _ _ _ hm hnn p1).mono ?_
  rintro e w2 ⟨g2, R2, rfl, g2a, g2b, P2, _, _, h2⟩
  have h12 := below_tr h1 h2
  go_wp2_with fail
  refine (grfCallsS _ _ _ _ _ _ _ _ _ hm hnn P2).mono ?_
  rintro e w3 ⟨v, rfl, hMw, h3⟩
  rw [hzS.out] at hMw
  obtain ⟨aw, capw, gw, rfl, hw⟩ := hMw
  have h13 := below_tr h12 h3
  clear hc hf
  obtain ⟨hc, hf⟩ := bcell h13
  have p3 := p0.next h13
  go_wp2_with fail
  refine (toPrg _ _ _ _ _ _ _ _ hm hnn p3).mono ?_
  rintro e w4 ⟨g4, R4, rfl, g4a, g4b, P4, F4, C4', h4⟩
  have h14 := below_tr h13 h4
  have b4 := below_tr bb0 h14
  have hgw : 0 < zs.length → gw < g4 := fun h => Nat.lt_of_lt_of_le (hw.lo h).2 g4a
  have k5 : Below w4.heap.size w4 (w4.alloc (.cells #[.slice (some ⟨g4, 0, none⟩) m0 m0] 29)) := (Below.refl _ _).alloc (Nat.le_refl _) _
  have P5 := P4.next k5
  clear hc hf
  go_wp2_with fail
  refine (grfCallsI _ _ _ _ _ _ _ _ _ hm hnn P5).mono ?_
  rintro e w6 ⟨v, rfl, hMg, h6⟩
  rw [hzS.out] at hMg
  obtain ⟨ag, capg, gg, rfl, hg⟩ := hMg
  have h46 := below_tr k5 h6
  have hw6 := hw.next (below_tr h4 h46)
  go_wp2_with fail
  refine (eqInts _ _ _ _ _ _ _ _ _ zs _ rfl hlen hg hw6).mono ?_
  rintro e w7 ⟨rfl, h7⟩
  have h47 := below_tr h46 h7
  have b7 := below_tr b4 h47
  have r7 := r0.next b7
  have P7 := P4.next h47
  have F7 := F4.next h47
  have hw7 := hw6.next h7
  have hg7 := hg.next h7
  have s47 := h47.size
  have sY : w.heap.size < w4.heap.size := by have := h14.size; simp at this; omega
  have kX : w4.heap.size < w7.heap.size ∧ w7.cell? ⟨w4.heap.size, 0, none⟩ = some (.slice (some ⟨g4, 0, none⟩) m0 m0) := by
    have h57 := below_tr h6 h7
    refine ⟨by have := h57.size; simp at this; omega, ?_⟩
    rw [(bcell h57).1 w4.heap.size 0 (by simp)]; simp [go_sem]
  have kY : w.heap.size < w7.heap.size ∧ w7.cell? ⟨w.heap.size, 0, none⟩ = some (.slice a0 m0 cap0) := by
    have h17 := below_tr h14 h47
    refine ⟨by omega, ?_⟩
    rw [(bcell h17).1 w.heap.size 0 (by simp)]; simp [go_sem]
  have hN4 : g4 < w4.heap.size ∧ ∀ i, i < m0 → (R4 i).b < w4.heap.size := ⟨F4.lt, F4.lcode⟩
  have hg4w : w.heap.size < g4 := by have := h13.size; simp at this; omega
  have lo7 : 0 < zs.length → w4.heap.size < gg := fun h => by have := (hg.lo h).1; simp at this; omega
  clear p0 p1 p3 P2 P5 P4 F4 hn0 h13 h14 h12 k5 h6 h7 h46 h47 hw hw6 hg h2 h3 h4 h1 bb0 b1
  go_wp2_with fail
  obtain ⟨X, hX⟩ : ∃ X, X = w4.heap.size := ⟨_, rfl⟩
  obtain ⟨Y, hY⟩ : ∃ Y, Y = w.heap.size := ⟨_, rfl⟩
  rw [← hX] at kX hN4 lo7
  rw [← hY] at kY hg4w
  have hXS : Hid (X = w4.heap.size) := hX
  have hYS : Hid (Y = w.heap.size) := hY
  rw [← hX, ← hY]
  clear hX hY
  go_region_held3 (fun W => W.cell? ⟨X, 0, none⟩ = some (.slice (some ⟨g4, 0, none⟩) m0 m0) ∧ W.cell? ⟨Y, 0, none⟩ = some (.slice a0 m0 cap0) ∧ Below w7.heap.size w7 W) (first | exact KB.of kX kY (Below.refl _ w7).drew | exact KB.of kX kY hH | exact KB.of kX kY hH2 | go_keep) (first | (go_at_call 12; refine (toPrg _ _ _ _ _ _ _ _ hm hnn (r7.next (KB.held (by assumption)))).mono ?_; rintro e w8 ⟨g7, R7, rfl, g7a, g7b, P8, _, C7, h8⟩; have hH := below_tr (KB.held (by assumption)) h8) | (go_at_call 14; refine (eqPrg _ _ _ _ _ _ _ hm hnn ⟨Nat.lt_of_lt_of_le F7.lt hH.size, g7b⟩ (P7.next hH) P8 C4' C7).mono ?_; rintro e w9 ⟨rfl, h9⟩; have hH2 := below_tr hH h9))
  have x9 : w9.cell? ⟨X, 0, none⟩ = some (.slice (some ⟨g4, 0, none⟩) m0 m0) := (hH2.cell (p := ⟨X, 0, none⟩) kX.1).trans kX.2
  have y9 : w9.cell? ⟨Y, 0, none⟩ = some (.slice a0 m0 cap0) := (hH2.cell (p := ⟨Y, 0, none⟩) kY.1).trans kY.2
  have s9 := hH2.size
  have b9 := below_tr b7 hH2
  have hw9 := hw7.next hH2
  have hg9 : LstAt X gg ag zs w9 := ⟨hg7.at_, fun h => ⟨Nat.le_of_lt (lo7 h), Nat.lt_of_lt_of_le (hg7.lo h).2 s9⟩, (hg7.next hH2).cell, (hg7.next hH2).free⟩
  have P9 := P7.next hH2
  have F9 := F7.next hH2
  have hYX : Y < X := by omega
  have hX7 := kX.1
  clear P8 h8 h9 hH hH2 P7 F7 r7 hw7 hg7 kX kY C7 g7a g7b
  go_wp2_with fail
  refine (markPrg _ _ _ _ _ hm hs1 X hN4 P9 F9 C4').mono ?_
  rintro e w10 ⟨k, rfl, hk, hT⟩
  have hk' : ¬ k < 0 := by omega
  have hw10 := hw9.turns hT (fun h e => by have := hgw h; omega)
  have hg10 := hg9.turns hT (fun h e => by have := lo7 h; omega)
  have y10 : w10.cell? ⟨Y, 0, none⟩ = some (.slice a0 m0 cap0) := (hT.cell (p := ⟨Y, 0, none⟩) (by dsimp only; omega) (fun e => by dsimp only at e; omega)).trans y9
  have b10 : Below w.heap.size w w10 := b9.trans (hT.below (by have := hYS.out; omega) (fun j hj => by have := hYS.out; omega))
  have s10 := hT.size
  clear P9 F9 hT hw9 hg9 x9 y9 b9
  go_wp2_with fail
  refine (eqInts _ _ _ _ _ _ _ _ _ zs _ rfl hlen hg10 hw10).mono ?_
  rintro e w11 ⟨rfl, h11⟩
  have hw11 := hw10.next h11
  have hg11 := hg10.next h11
  have y11 := ((bcell h11).1 Y 0 (by omega)).trans y10
  have b11 := below_tr b10 h11
  have s11 := h11.size
  clear hw10 hg10 y10 h11
  go_wp2_with fail
  refine (markInts _ _ _ _ _ zs _ rfl hlen hg11).mono ?_
  rintro e w12 ⟨rfl, hg12, h12⟩
  have hw12 := hw11.nextB h12 (fun h => by have := hgw h; have := hN4.1; omega)
  have y12 := (h12.cell (p := ⟨Y, 0, none⟩) hYX).trans y11
  have b12 : Below w.heap.size w w12 := b11.trans (h12.mono (by have := hYS.out; omega))
  have s12 := h12.size
  clear hw11 hg11 y11 h12
  have n7 : ¬ (zs.length : Int) + 1 < 0 := by omega
  go_wp2_with fail
  refine (heldInts _ _ _ _ _ (marks zs.length) _ (marks_len _) hlen hg12 (fun j hj => marks_get hj)).mono ?_
  rintro e w13 ⟨rfl, h13⟩
  have hw13 := hw12.next h13
  have hg13 := hg12.next h13
  have y13 := ((bcell h13).1 Y 0 (by omega)).trans y12
  have b13 := below_tr b12 h13
  clear hw12 hg12 y12 h13
  go_wp2_with fail
  refine (toPrg _ _ _ _ _ _ _ _ hm hnn (r0.next b13)).mono ?_
  rintro e w14 ⟨g8, R8, rfl, _, _, P8, _, _, h14⟩
  go_wp2_with fail
  refine (grfCallsI _ _ _ _ _ _ _ _ _ hm hnn P8).mono ?_
  rintro e w15 ⟨v, rfl, hMh, h15⟩
  rw [hzS.out] at hMh
  obtain ⟨ah, caph, gh, rfl, hh⟩ := hMh
  have h35 := below_tr h14 h15
  have hw15 := hw13.next h35
  have hg15 := hg13.next h35
  have b15 := below_tr b13 h35
  clear y13 P8 h14 h15 h35 hw13 hg13
  go_wp2_with fail
  refine (eqInts _ _ _ _ _ _ _ _ _ zs _ rfl hlen hh hw15).mono ?_
  rintro e w16 ⟨rfl, h16⟩
  have hg16 := hg15.next h16
  have b16 := below_tr b15 h16
  clear hh hw15 hg15
  go_wp2_with fail
  refine (heldInts _ _ _ _ _ (marks zs.length) _ (marks_len _) hlen hg16 (fun j hj => marks_get hj)).mono ?_
  rintro e w17 ⟨rfl, h17⟩
  have b17 := below_tr b16 h17
  go_wp2_with fail
  all_goals go_ret
  all_goals exact ⟨rfl, b17⟩

set_option maxRecDepth 100000 in
theorem contract (H : Type) (enc : TypeId × Value → H) (W : World) (base : Nat) (args : Array Value) (ds gs : List (DataW H)) (before : List MemPlace)
    (hval : ∀ (j : Nat) t v, Try.f9.params[j]? = some t → args[j]? = some v → Value.okWide Try.prog W .any base t v)
    (hW : DataW.Whole enc Try.prog Try.f9.params.toList Rows.fnExactGrfCallsSpec.vars false W args.toList ds gs before) :
    Calls Try.prog 9 args W fun e W' => ∃ v, e = .returned v ∧ Rows.fnExactGrfCallsSpec.post enc Try.prog Try.f9 false true false false W args v W' := by
  have hW' := hW
  obtain ⟨p, q, hA0, hV, rfl, hfz, hnd⟩ := hW
  have hA : DataW.TrodAll enc Try.prog W 0 (fun _ => true) true Try.f9.params.toList args.toList ds p := hA0
  rw [Try.params9] at hA hval
  obtain ⟨v0, vs0, d0, ds0, p0, q0, hargs, rfl, rfl, h0, r0'⟩ := trodAll_cons hA
  obtain ⟨v1, vs1, d1, ds1, p1, q1, rfl, rfl, rfl, h1, r1'⟩ := trodAll_cons r0'
  obtain ⟨rfl, rfl, rfl⟩ := trodAll_nil r1'
  obtain rfl : args = #[v0, v1] := by cases args; simp_all
  obtain ⟨rfl, rfl⟩ := trodVars_none hV
  have k0 := h0
  have lt0 : ∀ x ∈ p0, x.block < W.heap.size := by obtain ⟨m, hm⟩ := k0; exact DataW.trod_lt m _ _ _ hm
  obtain ⟨a0, m0, cap0, rfl, hm0, hn0, r0⟩ := open_prog (hval 0 24 v0 rfl rfl) h0
  obtain ⟨a1, rfl, rfl, rfl, w1⟩ := open_int Try.underlying3 (hval 1 3 v1 rfl rfl) h1
  clear hA0
  refine (walk a0 m0 cap0 _ _ _ _ hm0 hn0 a1 w1 W r0).mono fun e W' ⟨he, bel⟩ => ?_
  subst he
  exact ⟨_, rfl, _, _, _, [], _, [], hW', trodAll_mk1 (shut_bool Try.underlying4 _), (trodAll_cons_mk (Below.trod laidOut (by kernel_rfl) (of_decide_eq_true (by kernel_rfl)) k0 bel lt0) (trodAll_cons_mk (shut_int Try.underlying3 w1) trodAll_mk0)), rfl, bel.frame _, fun h => by cases h⟩

set_option maxRecDepth 100000 in
theorem lifted (os : Os) (started : os.Started) (H : Type) (enc : TypeId × Value → H) :
    ReturnsInHanded {} Try.checked os 9 .any (Rows.fnExactGrfCallsSpec.pre6 enc Try.prog Try.f9 Rows.fnExactGrfCallsRow.domain false) (Rows.fnExactGrfCallsSpec.post enc Try.prog Try.f9 false true false false) := by
  refine returnsInHanded_of_change (C := Try.checked) own started (by kernel_rfl) Try.func9
    (ChangeSpec.witness6 (enc := enc) (C := Try.checked) false ⟨#[], #[.agg #[.slice none 0 0], .int .i64 0], []⟩ 8 (by kernel_rfl) (by kernel_rfl) (by kernel_rfl) (by kernel_rfl)) ?_
  intro W base args ds gs before hval hW _ _
  exact contract H enc W base args ds gs before hval hW

theorem proved : Rows.FnExactGrfCallsSaid :=
  OpenClaim.holds_of_wide 9 Try.f9 rfl rfl rfl rfl rfl rfl rfl ⟨rfl, rfl, rfl, rfl, rfl⟩ rfl rfl rfl rfl rfl (by kernel_rfl) Try.func9 (by kernel_rfl)
    (of_decide_eq_true (by kernel_rfl)) (by unfold Func.isWrapper; first | (rw [if_pos (by decide +kernel)]; kernel_rfl) | (rw [if_neg (by decide +kernel)]; exact ⟨rfl, rfl⟩))
    (fun os started H enc _ => lifted os started H enc)
#print axioms proved
end Go.Proofs.Ytndedplmcjfgeaa.fnExactGrfCalls
