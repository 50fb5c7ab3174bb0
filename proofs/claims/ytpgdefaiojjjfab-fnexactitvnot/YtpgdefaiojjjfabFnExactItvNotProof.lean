/- Whatever rel and four ends are handed in, the law FnExactItvNot returns true: the program's ItvNot answers as the model's. No condition. -/
import Derived.Test.YtpgdefaiojjjfabNums
import Derived.Test.YtpgdefaiojjjfabHeld
import Derived.Test.YtpgdefaiojjjfabHeldZ
import Derived.Test.YtpgdefaiojjjfabItv
import Derived.Test.YtpgdefaiojjjfabItvI
import Derived.Test.YtpgdefaiojjjfabItvCut
import Derived.Test.YtpgdefaiojjjfabItvOther
import Derived.Test.YtpgdefaiojjjfabItvRel
import Derived.Test.YtpgdefaiojjjfabItvRelB
import Derived.Test.YtpgdefaiojjjfabItvRelI
import Derived.Test.YtpgdefaiojjjfabItvKeepI
import Derived.Test.YtpgdefaiojjjfabItvKeepJ
import Derived.Test.YtpgdefaiojjjfabItvKeptI
import Derived.Test.YtpgdefaiojjjfabItvRelJ
import Derived.Test.YtpgdefaiojjjfabItvNot
import Derived.Test.YtpgdefaiojjjfabItvNotI
import Derived.Deep.RegionHeld3
import Derived.Deep.DeepCutAuto
import Derived.WalkKit
import Derived.ProofKit
import Derived.OpenShut
import Derived.ShutString
import Derived.ChangeOld
import Derived.Below
import Derived.Lib.SmallJoins
namespace Go.Proofs.Ytpgdefaiojjjfab.fnExactItvNot
open Go.ChangeShapes Go.WideShapes Go.ChangeAt Go.RowKit
open Go.ChangeMaps (open_string shut_string)
set_option linter.unusedVariables false

theorem own : ownKnob Try.prog.godebug = none := by kernel_rfl
theorem laidOut : laidOutB Try.prog = true := by kernel_rfl

/-- The four cells of what was handed in, and that nothing older than V has turned. -/
def SA (V : World) (z : Nat) (a b c d : Int) (W : World) : Prop :=
  W.cell? ⟨z, 0, none⟩ = some (.int .i64 a) ∧ W.cell? ⟨z, 1, none⟩ = some (.int .i64 b) ∧ W.cell? ⟨z + 1, 0, none⟩ = some (.int .i64 c) ∧ W.cell? ⟨z + 1, 1, none⟩ = some (.int .i64 d) ∧ HeldL V [] W
theorem SA.of {V : World} {z : Nat} {a b c d : Int} (h : z + 1 < V.heap.size ∧ C4 z a b c d V) {W : World} (hW : HeldL V [] W) : SA V z a b c d W := by
  obtain ⟨h0, h1, h2, h3⟩ := h.2.next h.1 hW.below
  exact ⟨h0, h1, h2, h3, hW⟩
theorem SA.held {V : World} {z : Nat} {a b c d : Int} {W : World} (h : SA V z a b c d W) : HeldL V [] W := h.2.2.2.2
theorem lt_of_cell {W : World} {g i : Nat} {v : Value} (h : W.cell? ⟨g, i, none⟩ = some v) : g < W.heap.size := World.block_lt_of_cell? W ⟨g, i, none⟩ h

set_option maxRecDepth 10000 in
set_option maxHeartbeats 40000000 in
theorem walk (a0 : Int) (w0 : (Lit.int .i64 a0).wf = true) (lo1 hi1 : Int) (wl1 : (Lit.int .i64 lo1).wf = true) (wh1 : (Lit.int .i64 hi1).wf = true) (lo2 hi2 : Int) (wl2 : (Lit.int .i64 lo2).wf = true) (wh2 : (Lit.int .i64 hi2).wf = true) (w : World)  :
    Calls Try.prog 6 #[.int .i64 a0, .agg #[.int .i64 lo1, .int .i64 hi1], .agg #[.int .i64 lo2, .int .i64 hi2]] w fun e w' => e = .returned (.bool true) ∧ Below w.heap.size w w' := by
  go_enter Try.func6, Try.ntmps6
  go_wp2_with fail
  have b0 : Below w.heap.size w ((w.alloc (Obj.cells #[Value.int IntKind.i64 lo1, Value.int IntKind.i64 hi1] 27)).alloc (Obj.cells #[Value.int IntKind.i64 lo2, Value.int IntKind.i64 hi2] 27)) := ((Below.refl _ _).alloc (Nat.le_refl _) _).alloc (by simp) _
  have hA : w.heap.size + 1 < ((w.alloc (Obj.cells #[Value.int IntKind.i64 lo1, Value.int IntKind.i64 hi1] 27)).alloc (Obj.cells #[Value.int IntKind.i64 lo2, Value.int IntKind.i64 hi2] 27)).heap.size ∧ C4 w.heap.size lo1 hi1 lo2 hi2 ((w.alloc (Obj.cells #[Value.int IntKind.i64 lo1, Value.int IntKind.i64 hi1] 27)).alloc (Obj.cells #[Value.int IntKind.i64 lo2, Value.int IntKind.i64 hi2] 27)) := ⟨by simp, by simp, by simp, by simp, by simp⟩
  generalize (w.alloc (Obj.cells #[Value.int IntKind.i64 lo1, Value.int IntKind.i64 hi1] 27)).alloc (Obj.cells #[Value.int IntKind.i64 lo2, Value.int IntKind.i64 hi2] 27) = w0 at b0 hA ⊢
  have hG := HeldL.nil w0
  go_cut [7, 8, 9] (fun p0 p1 p2 W => ∃ g0 g1, p0 = .pointer (some ⟨g0, 0, none⟩) ∧ w0.heap.size ≤ g0 ∧ p1 = .pointer (some ⟨g1, 0, none⟩) ∧ w0.heap.size ≤ g1 ∧ p2 = .bool (itvNot a0 lo1 hi1 lo2 hi2).ok ∧ W.cell? ⟨g0, 0, none⟩ = some (.int .i64 (itvNot a0 lo1 hi1 lo2 hi2).l0) ∧ W.cell? ⟨g0, 1, none⟩ = some (.int .i64 (itvNot a0 lo1 hi1 lo2 hi2).h0) ∧ W.cell? ⟨g1, 0, none⟩ = some (.int .i64 (itvNot a0 lo1 hi1 lo2 hi2).l1) ∧ W.cell? ⟨g1, 1, none⟩ = some (.int .i64 (itvNot a0 lo1 hi1 lo2 hi2).h1) ∧ HeldL w0 [] W)
  case first =>
    go_region_held3 (fun W => W.cell? ⟨w.heap.size, 0, none⟩ = some (.int .i64 lo1) ∧ W.cell? ⟨w.heap.size, 1, none⟩ = some (.int .i64 hi1) ∧ W.cell? ⟨w.heap.size + 1, 0, none⟩ = some (.int .i64 lo2) ∧ W.cell? ⟨w.heap.size + 1, 1, none⟩ = some (.int .i64 hi2) ∧ HeldL w0 [] W) (first | exact SA.of hA (HeldL.drew (HeldL.nil w0)) | exact SA.of hA hH | exact SA.of hA (HeldL.alloc _ (HeldL.alloc _ hH)) | exact SA.of hA (HeldL.alloc _ hH) | exact SA.of hA (HeldL.alloc _ (SA.held (by assumption))) | exact SA.of hA (HeldL.setCell _ _ (by dsimp only; omega) (fun _ he => by cases he) (HeldL.setCell _ _ (by dsimp only; omega) (fun _ he => by cases he) (SA.held (by assumption)))) | exact SA.of hA (HeldL.setCell _ _ (by dsimp only; omega) (fun _ he => by cases he) (HeldL.setCell _ _ (by dsimp only; omega) (fun _ he => by cases he) (HeldL.alloc _ hH)))) (first | (go_at_call 11; refine (toItv _ _ _).mono ?_; rintro e w' ⟨rfl, hb⟩; have hH := HeldL.next hb (SA.held (by assumption)); have hzz := hH.below.size; have hG : HeldL w0 _ w' := (by first | exact HeldL.next hb (HeldL.new2 hG) | exact HeldL.next hb (HeldL.new hG) | exact HeldL.next hb hG | exact HeldL.next hb (HeldL.drew (HeldL.new2 hG)) | exact HeldL.next hb (HeldL.drew (HeldL.new hG)) | exact HeldL.next hb (HeldL.drew hG)); try (have hv := hG.zf List.mem_cons_self); try (have hu := hG.zf (List.mem_cons_of_mem _ List.mem_cons_self))) | (go_at_call 15; refine (itvNotS _ _ _ _ _ _).mono ?_; rintro e w' ⟨rfl, hb⟩; have hH := HeldL.next hb (SA.held (by assumption)); have hzz := hH.below.size; have hG : HeldL w0 _ w' := (by first | exact HeldL.next hb (HeldL.new2 hG) | exact HeldL.next hb (HeldL.new hG) | exact HeldL.next hb hG | exact HeldL.next hb (HeldL.drew (HeldL.new2 hG)) | exact HeldL.next hb (HeldL.drew (HeldL.new hG)) | exact HeldL.next hb (HeldL.drew hG)); try (have hv := hG.zf List.mem_cons_self); try (have hu := hG.zf (List.mem_cons_of_mem _ List.mem_cons_self))))
    all_goals (go_wp2_with fail)
    all_goals go_meet
    all_goals (refine ⟨_, _, rfl, by omega, rfl, by omega, rfl, ?_⟩)
    all_goals (first | (with_reducible refine fin4 (p := .int .i64 0) (q := .int .i64 0) (u := .int .i64 0) (v := .int .i64 0) (P := fun W => HeldL w0 [] W) ?_ ?_ ?_ ?_ ?_ ?_) | (with_reducible refine fin2 (u := .int .i64 0) (v := .int .i64 0) (P := fun W => HeldL w0 [] W) ?_ ?_ ?_ ?_ ?_ ?_) | (refine ⟨by simp, by simp, by simp, by simp, ?_⟩))
    all_goals (first | exact SA.held (a := lo1) (b := hi1) (c := lo2) (d := hi2) (z := w.heap.size) (by assumption) | omega | (first | with_reducible exact hv.1.1 | with_reducible exact hu.1.1 | with_reducible exact (hv.2.1 _).1 | with_reducible exact (hu.2.1 _).1 | simp) | (first | with_reducible exact hv.1.2.1 | with_reducible exact hu.1.2.1 | with_reducible exact (hv.2.1 _).2.1 | with_reducible exact (hu.2.1 _).2.1 | simp))
  case rest =>
    obtain ⟨g0, g1, rfl, hg0, rfl, hg1, rfl, k0, k1, k2, k3, hY⟩ := hcut
    have b1 := b0.trans (hY.below.mono b0.size)
    have hA1 := And.intro (Nat.lt_of_lt_of_le hA.1 hY.below.size) (hA.2.next hA.1 hY.below)
    have s0 := lt_of_cell k0
    have s1 := lt_of_cell k2
    clear hG hY hA b0 hg0 hg1
    have hA := hA1
    clear hA1
    go_wp2_with fail
    have hG := HeldL.nil wc
    go_cut [10, 11, 12] (fun p0 p1 p2 W => ∃ g0 g1, p0 = .pointer (some ⟨g0, 0, none⟩) ∧ wc.heap.size ≤ g0 ∧ p1 = .pointer (some ⟨g1, 0, none⟩) ∧ wc.heap.size ≤ g1 ∧ p2 = .bool (itvNot a0 lo1 hi1 lo2 hi2).ok ∧ W.cell? ⟨g0, 0, none⟩ = some (.int .i64 (itvNot a0 lo1 hi1 lo2 hi2).l0) ∧ W.cell? ⟨g0, 1, none⟩ = some (.int .i64 (itvNot a0 lo1 hi1 lo2 hi2).h0) ∧ W.cell? ⟨g1, 0, none⟩ = some (.int .i64 (itvNot a0 lo1 hi1 lo2 hi2).l1) ∧ W.cell? ⟨g1, 1, none⟩ = some (.int .i64 (itvNot a0 lo1 hi1 lo2 hi2).h1) ∧ HeldL wc [] W)
    case first =>
      go_region_held3 (fun W => W.cell? ⟨w.heap.size, 0, none⟩ = some (.int .i64 lo1) ∧ W.cell? ⟨w.heap.size, 1, none⟩ = some (.int .i64 hi1) ∧ W.cell? ⟨w.heap.size + 1, 0, none⟩ = some (.int .i64 lo2) ∧ W.cell? ⟨w.heap.size + 1, 1, none⟩ = some (.int .i64 hi2) ∧ HeldL wc [] W) (first | exact SA.of hA (HeldL.drew (HeldL.nil wc)) | exact SA.of hA hH | exact SA.of hA (HeldL.alloc _ (HeldL.alloc _ hH)) | exact SA.of hA (HeldL.alloc _ hH) | exact SA.of hA (HeldL.alloc _ (SA.held (by assumption))) | exact SA.of hA (HeldL.setCell _ _ (by dsimp only; omega) (fun _ he => by cases he) (HeldL.setCell _ _ (by dsimp only; omega) (fun _ he => by cases he) (SA.held (by assumption)))) | exact SA.of hA (HeldL.setCell _ _ (by dsimp only; omega) (fun _ he => by cases he) (HeldL.setCell _ _ (by dsimp only; omega) (fun _ he => by cases he) (HeldL.alloc _ hH)))) (first | (go_at_call 11; refine (toItv _ _ _).mono ?_; rintro e w' ⟨rfl, hb⟩; have hH := HeldL.next hb (SA.held (by assumption)); have hzz := hH.below.size; have hG : HeldL wc _ w' := (by first | exact HeldL.next hb (HeldL.new2 hG) | exact HeldL.next hb (HeldL.new hG) | exact HeldL.next hb hG | exact HeldL.next hb (HeldL.drew (HeldL.new2 hG)) | exact HeldL.next hb (HeldL.drew (HeldL.new hG)) | exact HeldL.next hb (HeldL.drew hG)); try (have hv := hG.zf List.mem_cons_self); try (have hu := hG.zf (List.mem_cons_of_mem _ List.mem_cons_self))) | (go_at_call 16; refine (itvNotI _ _ _ _ _ _).mono ?_; rintro e w' ⟨rfl, hb⟩; have hH := HeldL.next hb (SA.held (by assumption)); have hzz := hH.below.size; have hG : HeldL wc _ w' := (by first | exact HeldL.next hb (HeldL.new2 hG) | exact HeldL.next hb (HeldL.new hG) | exact HeldL.next hb hG | exact HeldL.next hb (HeldL.drew (HeldL.new2 hG)) | exact HeldL.next hb (HeldL.drew (HeldL.new hG)) | exact HeldL.next hb (HeldL.drew hG)); try (have hv := hG.zf List.mem_cons_self); try (have hu := hG.zf (List.mem_cons_of_mem _ List.mem_cons_self))))
      all_goals (go_wp2_with fail)
      all_goals go_meet
      all_goals (refine ⟨_, _, rfl, by omega, rfl, by omega, rfl, ?_⟩)
      all_goals (first | (with_reducible refine fin4 (p := .int .i64 0) (q := .int .i64 0) (u := .int .i64 0) (v := .int .i64 0) (P := fun W => HeldL wc [] W) ?_ ?_ ?_ ?_ ?_ ?_) | (with_reducible refine fin2 (u := .int .i64 0) (v := .int .i64 0) (P := fun W => HeldL wc [] W) ?_ ?_ ?_ ?_ ?_ ?_) | (refine ⟨by simp, by simp, by simp, by simp, ?_⟩))
      all_goals (first | exact SA.held (a := lo1) (b := hi1) (c := lo2) (d := hi2) (z := w.heap.size) (by assumption) | omega | (first | with_reducible exact hv.1.1 | with_reducible exact hu.1.1 | with_reducible exact (hv.2.1 _).1 | with_reducible exact (hu.2.1 _).1 | simp) | (first | with_reducible exact hv.1.2.1 | with_reducible exact hu.1.2.1 | with_reducible exact (hv.2.1 _).2.1 | with_reducible exact (hu.2.1 _).2.1 | simp))
    case rest =>
      obtain ⟨g2, g3, rfl, hg2, rfl, hg3, rfl, m0, m1, m2, m3, hY⟩ := hcut
      have k0' := (hY.below.cell (p := ⟨g0, 0, none⟩) s0).trans k0
      have k1' := (hY.below.cell (p := ⟨g0, 1, none⟩) s0).trans k1
      have k2' := (hY.below.cell (p := ⟨g1, 0, none⟩) s1).trans k2
      have k3' := (hY.below.cell (p := ⟨g1, 1, none⟩) s1).trans k3
      have b2 := b1.trans (hY.below.mono b1.size)
      clear hG hY hA b1 hg2 hg3 k0 k1 k2 k3 s0 s1
      go_wp2_with fail
      refine (eqItv _ _ _ _ _).mono ?_
      rintro e w4 ⟨rfl, g4⟩
      have b4 := b2.trans (g4.mono b2.size)
      have n0 := (g4.cell (p := ⟨g1, 0, none⟩) (lt_of_cell k2')).trans k2'
      have n1 := (g4.cell (p := ⟨g1, 1, none⟩) (lt_of_cell k3')).trans k3'
      have n2 := (g4.cell (p := ⟨g3, 0, none⟩) (lt_of_cell m2)).trans m2
      have n3 := (g4.cell (p := ⟨g3, 1, none⟩) (lt_of_cell m3)).trans m3
      clear k0' k1' k2' k3' m0 m1 m2 m3
      go_wp2_with fail
      refine (eqItv _ _ _ _ _).mono ?_
      rintro e w5 ⟨rfl, g5⟩
      have b5 := b4.trans (g5.mono b4.size)
      go_wp2_with fail
      all_goals go_ret
      all_goals exact ⟨ret_bool (by simp), b5⟩

theorem contract (H : Type) (enc : TypeId × Value → H) (W : World) (base : Nat) (args : Array Value) (ds gs : List (DataW H)) (before : List MemPlace)
    (hval : ∀ (j : Nat) t v, Try.f6.params[j]? = some t → args[j]? = some v → Value.okWide Try.prog W .any base t v)
    (hW : DataW.Whole enc Try.prog Try.f6.params.toList Rows.fnExactItvNotSpec.vars false W args.toList ds gs before) :
    Calls Try.prog 6 args W fun e W' => ∃ v, e = .returned v ∧ Rows.fnExactItvNotSpec.post enc Try.prog Try.f6 false true false false W args v W' := by
  have hW' := hW
  obtain ⟨p, q, hA0, hV, rfl, hfz, hnd⟩ := hW
  have hA : DataW.TrodAll enc Try.prog W 0 (fun _ => true) true Try.f6.params.toList args.toList ds p := hA0
  rw [Try.params6] at hA hval
  obtain ⟨v0, vs0, d0, ds0, p0, q0, hargs, rfl, rfl, h0, r0'⟩ := trodAll_cons hA
  obtain ⟨v1, vs1, d1, ds1, p1, q1, rfl, rfl, rfl, h1, r1'⟩ := trodAll_cons r0'
  obtain ⟨v2, vs2, d2, ds2, p2, q2, rfl, rfl, rfl, h2, r2'⟩ := trodAll_cons r1'
  obtain ⟨rfl, rfl, rfl⟩ := trodAll_nil r2'
  obtain rfl : args = #[v0, v1, v2] := by cases args; simp_all
  obtain ⟨rfl, rfl⟩ := trodVars_none hV
  obtain ⟨a0, rfl, rfl, rfl, w0⟩ := open_int Try.underlying3 (hval 0 3 v0 rfl rfl) h0
  obtain ⟨c01, c11, y01, y11, m1, rfl, rfl, rfl, hy01, hy11⟩ := Joins.open_agg2 Try.underlying27 (by kernel_rfl) (by kernel_rfl) (hval 1 27 v1 rfl rfl) h1
  obtain ⟨lo1, e01, rfl, wl1⟩ := DataW.trod_int Try.underlying3 hy01
  obtain ⟨hi1, e11, rfl, wh1⟩ := DataW.trod_int Try.underlying3 hy11
  simp at e01 e11
  subst e01 e11
  obtain ⟨c02, c12, y02, y12, m2, rfl, rfl, rfl, hy02, hy12⟩ := Joins.open_agg2 Try.underlying27 (by kernel_rfl) (by kernel_rfl) (hval 2 27 v2 rfl rfl) h2
  obtain ⟨lo2, e02, rfl, wl2⟩ := DataW.trod_int Try.underlying3 hy02
  obtain ⟨hi2, e12, rfl, wh2⟩ := DataW.trod_int Try.underlying3 hy12
  simp at e02 e12
  subst e02 e12
  clear hA0
  refine (walk a0 w0 lo1 hi1 wl1 wh1 lo2 hi2 wl2 wh2 W ).mono fun e W' ⟨he, bel⟩ => ?_
  subst he
  exact ⟨_, rfl, _, _, _, [], [], [], hW', trodAll_mk1 (shut_bool Try.underlying4 _), (trodAll_cons_mk (shut_int Try.underlying3 w0) (trodAll_cons_mk (Joins.shut_agg2 (y0 := (.lit (.int .i64 lo1), [])) (y1 := (.lit (.int .i64 hi1), [])) Try.underlying27 (by kernel_rfl) (by kernel_rfl) ⟨1, by simp [DataW.trod, Try.underlying3, wl1]⟩ ⟨1, by simp [DataW.trod, Try.underlying3, wh1]⟩) (trodAll_cons_mk (Joins.shut_agg2 (y0 := (.lit (.int .i64 lo2), [])) (y1 := (.lit (.int .i64 hi2), [])) Try.underlying27 (by kernel_rfl) (by kernel_rfl) ⟨1, by simp [DataW.trod, Try.underlying3, wl2]⟩ ⟨1, by simp [DataW.trod, Try.underlying3, wh2]⟩) trodAll_mk0))), rfl, bel.frame _, fun h => by cases h⟩

set_option maxRecDepth 100000 in
theorem lifted (os : Os) (started : os.Started) (H : Type) (enc : TypeId × Value → H) :
    ReturnsInHanded {} Try.checked os 6 .any (Rows.fnExactItvNotSpec.pre6 enc Try.prog Try.f6 Rows.fnExactItvNotRow.domain false) (Rows.fnExactItvNotSpec.post enc Try.prog Try.f6 false true false false) := by
  refine returnsInHanded_of_change (C := Try.checked) own started (by kernel_rfl) Try.func6
    (ChangeSpec.witness6 (enc := enc) (C := Try.checked) false ⟨#[], #[.int .i64 0, .agg #[.int .i64 0, .int .i64 0], .agg #[.int .i64 0, .int .i64 0]], []⟩ 8 (by kernel_rfl) (by kernel_rfl) (by kernel_rfl) (by kernel_rfl)) ?_
  intro W base args ds gs before hval hW _ _
  exact contract H enc W base args ds gs before hval hW

theorem proved : Rows.FnExactItvNotSaid :=
  OpenClaim.holds_of_wide 6 Try.f6 rfl rfl rfl rfl rfl rfl rfl ⟨rfl, rfl, rfl, rfl, rfl⟩ rfl rfl rfl rfl rfl (by kernel_rfl) Try.func6 (by kernel_rfl)
    (of_decide_eq_true (by kernel_rfl)) (by unfold Func.isWrapper; first | (rw [if_pos (by decide +kernel)]; kernel_rfl) | (rw [if_neg (by decide +kernel)]; exact ⟨rfl, rfl⟩))
    (fun os started H enc _ => lifted os started H enc)
#print axioms proved
end Go.Proofs.Ytpgdefaiojjjfab.fnExactItvNot
