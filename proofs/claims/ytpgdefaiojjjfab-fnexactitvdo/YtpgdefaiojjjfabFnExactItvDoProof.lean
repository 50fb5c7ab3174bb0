/- Whatever op or rel and four ends are handed in, the law FnExactItvDo returns true: the program's ItvDo answers as the model's. No condition. -/
import Derived.Test.YtpgdefaiojjjfabNums
import Derived.Test.YtpgdefaiojjjfabHeld
import Derived.Test.YtpgdefaiojjjfabItv
import Derived.Test.YtpgdefaiojjjfabItvI
import Derived.Test.YtpgdefaiojjjfabItvFold
import Derived.Test.YtpgdefaiojjjfabItvSpan
import Derived.Test.YtpgdefaiojjjfabItvDiv
import Derived.Test.YtpgdefaiojjjfabItvDivs
import Derived.Test.YtpgdefaiojjjfabItvDo
import Derived.Test.YtpgdefaiojjjfabItvFoldI
import Derived.Test.YtpgdefaiojjjfabOwn
import Derived.Test.YtpgdefaiojjjfabItvDivI
import Derived.Test.YtpgdefaiojjjfabItvDoI
import Derived.Deep.RegionHeld3
import Derived.Deep.DeepCutAuto
import Derived.WalkKit
import Derived.ProofKit
import Derived.OpenShut
import Derived.ShutString
import Derived.ChangeOld
import Derived.Below
import Derived.Lib.SmallJoins
namespace Go.Proofs.Ytpgdefaiojjjfab.fnExactItvDo
open Go.ChangeShapes Go.WideShapes Go.ChangeAt Go.RowKit
open Go.ChangeMaps (open_string shut_string)
set_option linter.unusedVariables false

theorem own : ownKnob Try.prog.godebug = none := by kernel_rfl
theorem laidOut : laidOutB Try.prog = true := by kernel_rfl

def S2 (w : World) (L : List (Nat × List Value)) (a b c d : Int) (W : World) : Prop :=
  W.cell? ⟨w.heap.size, 0, none⟩ = some (.int .i64 a) ∧ W.cell? ⟨w.heap.size, 1, none⟩ = some (.int .i64 b) ∧ W.cell? ⟨w.heap.size + 1, 0, none⟩ = some (.int .i64 c) ∧ W.cell? ⟨w.heap.size + 1, 1, none⟩ = some (.int .i64 d) ∧ HeldL w L W
theorem s2_of {w : World} {L : List (Nat × List Value)} {a b c d : Int} (hm : (w.heap.size, [.int .i64 a, .int .i64 b]) ∈ L ∧ (w.heap.size + 1, [.int .i64 c, .int .i64 d]) ∈ L) {W : World} (h : HeldL w L W) : S2 w L a b c d W :=
  ⟨h.cell hm.1 rfl, h.cell hm.1 rfl, h.cell hm.2 rfl, h.cell hm.2 rfl, h⟩
theorem S2.held {w : World} {L : List (Nat × List Value)} {a b c d : Int} {W : World} (h : S2 w L a b c d W) : HeldL w L W := h.2.2.2.2

set_option maxHeartbeats 8000000 in
theorem walk (a0 : Int) (w0 : (Lit.int .i64 a0).wf = true) (lo1 hi1 : Int) (wl1 : (Lit.int .i64 lo1).wf = true) (wh1 : (Lit.int .i64 hi1).wf = true) (lo2 hi2 : Int) (wl2 : (Lit.int .i64 lo2).wf = true) (wh2 : (Lit.int .i64 hi2).wf = true) (w : World)  :
    Calls Try.prog 4 #[.int .i64 a0, .agg #[.int .i64 lo1, .int .i64 hi1], .agg #[.int .i64 lo2, .int .i64 hi2]] w fun e w' => e = .returned (.bool true) ∧ Below w.heap.size w w' := by
  go_enter Try.func4, Try.ntmps4
  go_wp2_with fail
  generalize hw0 : (w.alloc (Obj.cells #[Value.int IntKind.i64 lo1, Value.int IntKind.i64 hi1] 27)).alloc (Obj.cells #[Value.int IntKind.i64 lo2, Value.int IntKind.i64 hi2] 27) = w0
  obtain ⟨L, hL⟩ : ∃ L, L = [(w.heap.size + 1, [Value.int .i64 lo2, Value.int .i64 hi2]), (w.heap.size, [Value.int .i64 lo1, Value.int .i64 hi1])] := ⟨_, rfl⟩
  have h0 : HeldL w L w0 := by
    rw [← hw0, hL]
    have e : w.heap.size + 1 = (w.alloc (Obj.cells #[Value.int IntKind.i64 lo1, Value.int IntKind.i64 hi1] 27)).heap.size := by simp
    rw [e]
    exact HeldL.new (HeldL.new (HeldL.nil w))
  have mm : (w.heap.size, [Value.int .i64 lo1, .int .i64 hi1]) ∈ L ∧ (w.heap.size + 1, [Value.int .i64 lo2, .int .i64 hi2]) ∈ L := by rw [hL]; simp
  obtain ⟨T, hT⟩ : ∃ T, T = w.heap.size + 1 := ⟨_, rfl⟩
  have wT : w.heap.size < T := by omega
  have mT : (T, [Value.int .i64 lo2, .int .i64 hi2]) ∈ L := by rw [hT]; exact mm.2
  have lT : ∀ e ∈ L, e.1 ≤ T := by
    rw [hL, hT]; intro e he
    simp at he
    rcases he with rfl | rfl <;> simp only [] <;> omega
  have qT : ∀ W : World, T < W.heap.size → ∀ e ∈ L, e.1 < W.heap.size := fun W h e he => Nat.lt_of_le_of_lt (lT e he) h
  have nT : ∀ k : Nat, T < k → ∀ e ∈ L, e.1 ≠ k := fun k h e he => by have := lT e he; omega
  have zT : T < w0.heap.size := h0.size mT
  clear hw0 hL hT
  go_cut [7, 8] (fun p0 p1 W => ∃ g0, p0 = .pointer (some ⟨g0, 0, none⟩) ∧ T < g0 ∧ p1 = .bool (itvDoOk a0 lo1 hi1 lo2 hi2) ∧ HeldL w ((g0, [.int .i64 (itvDoLo a0 lo1 hi1 lo2 hi2), .int .i64 (itvDoHi a0 lo1 hi1 lo2 hi2)]) :: L) W)
  case first =>
    go_region_held3 (fun W => W.cell? ⟨w.heap.size, 0, none⟩ = some (.int .i64 lo1) ∧ W.cell? ⟨w.heap.size, 1, none⟩ = some (.int .i64 hi1) ∧ W.cell? ⟨w.heap.size + 1, 0, none⟩ = some (.int .i64 lo2) ∧ W.cell? ⟨w.heap.size + 1, 1, none⟩ = some (.int .i64 hi2) ∧ HeldL w L W) (first | exact s2_of mm h0.drew | exact s2_of mm hH | exact s2_of mm (HeldL.alloc _ (S2.held (by assumption))) | exact s2_of mm (HeldL.realloc (by omega) (qT _ (by assumption)) (S2.held (by assumption))) | exact s2_of mm (HeldL.setCell _ _ (by dsimp only; omega) (nT _ (by dsimp only; omega)) (HeldL.setCell _ _ (by dsimp only; omega) (nT _ (by dsimp only; omega)) (S2.held (by assumption))))) (first | (go_at_call 11; refine (toItv _ _ _).mono ?_; rintro e w' ⟨rfl, hb⟩; have hH := HeldL.next hb (S2.held (by assumption)); have hzz := hH.size mT; obtain ⟨hc, hf⟩ := bcell hb; try (have hb2 := below_tr (by assumption) hb; obtain ⟨hc2, hf2⟩ := bcell hb2)) | (go_at_call 10; refine (itvDoS _ _ _ _ _ _).mono ?_; rintro e w' ⟨rfl, hb⟩; have hH := HeldL.next hb (S2.held (by assumption)); have hzz := hH.size mT; obtain ⟨hc, hf⟩ := bcell hb; try (have hb2 := below_tr (by assumption) hb; obtain ⟨hc2, hf2⟩ := bcell hb2)))
    all_goals (go_wp2_with fail)
    all_goals go_meet
    all_goals first |  exact ⟨_, rfl, by omega, rfl, HeldL.new hH⟩ | exact ⟨_, rfl, by omega, rfl, HeldL.old (by assumption) (by omega) (qT _ (by omega)) hH⟩ | exact ⟨_, rfl, by omega, rfl, HeldL.oldDrew (by assumption) (by omega) (qT _ (by omega)) hH⟩
  case rest =>
    obtain ⟨g, rfl, hg, rfl, h1⟩ := hcut
    have mg : (g, [Value.int .i64 (itvDoLo a0 lo1 hi1 lo2 hi2), .int .i64 (itvDoHi a0 lo1 hi1 lo2 hi2)]) ∈ (g, [Value.int .i64 (itvDoLo a0 lo1 hi1 lo2 hi2), .int .i64 (itvDoHi a0 lo1 hi1 lo2 hi2)]) :: L := List.mem_cons_self
    have mm1 := And.intro (List.mem_cons_of_mem (g, [Value.int .i64 (itvDoLo a0 lo1 hi1 lo2 hi2), .int .i64 (itvDoHi a0 lo1 hi1 lo2 hi2)]) mm.1) (List.mem_cons_of_mem (g, [Value.int .i64 (itvDoLo a0 lo1 hi1 lo2 hi2), .int .i64 (itvDoHi a0 lo1 hi1 lo2 hi2)]) mm.2)
    have lT1 : ∀ e ∈ (g, [Value.int .i64 (itvDoLo a0 lo1 hi1 lo2 hi2), .int .i64 (itvDoHi a0 lo1 hi1 lo2 hi2)]) :: L, e.1 ≤ g := fun e he => by
      rcases List.mem_cons.1 he with rfl | he
      · exact Nat.le_refl _
      · have := lT e he; omega
    have wT1 : w.heap.size < g := by omega
    generalize (g, [Value.int .i64 (itvDoLo a0 lo1 hi1 lo2 hi2), .int .i64 (itvDoHi a0 lo1 hi1 lo2 hi2)]) :: L = L1 at h1 mg mm1 lT1
    have qT1 : ∀ W : World, g < W.heap.size → ∀ e ∈ L1, e.1 < W.heap.size := fun W h e he => Nat.lt_of_le_of_lt (lT1 e he) h
    have nT1 : ∀ k : Nat, g < k → ∀ e ∈ L1, e.1 ≠ k := fun k h e he => by have := lT1 e he; omega
    have zT1 : g < wc.heap.size := h1.size mg
    clear qT nT zT lT mT mm h0
    go_wp2_with fail
    go_cut [9, 10] (fun p0 p1 W => ∃ g0, p0 = .pointer (some ⟨g0, 0, none⟩) ∧ g < g0 ∧ p1 = .bool (itvDoOk a0 lo1 hi1 lo2 hi2) ∧ HeldL w ((g0, [.int .i64 (itvDoLo a0 lo1 hi1 lo2 hi2), .int .i64 (itvDoHi a0 lo1 hi1 lo2 hi2)]) :: L1) W)
    case first =>
      go_region_held3 (fun W => W.cell? ⟨w.heap.size, 0, none⟩ = some (.int .i64 lo1) ∧ W.cell? ⟨w.heap.size, 1, none⟩ = some (.int .i64 hi1) ∧ W.cell? ⟨w.heap.size + 1, 0, none⟩ = some (.int .i64 lo2) ∧ W.cell? ⟨w.heap.size + 1, 1, none⟩ = some (.int .i64 hi2) ∧ HeldL w L1 W) (first | exact s2_of mm1 h1.drew | exact s2_of mm1 hH | exact s2_of mm1 (HeldL.alloc _ (S2.held (by assumption))) | exact s2_of mm1 (HeldL.realloc (by omega) (qT1 _ (by assumption)) (S2.held (by assumption))) | exact s2_of mm1 (HeldL.setCell _ _ (by dsimp only; omega) (nT1 _ (by dsimp only; omega)) (HeldL.setCell _ _ (by dsimp only; omega) (nT1 _ (by dsimp only; omega)) (S2.held (by assumption))))) (first | (go_at_call 11; refine (toItv _ _ _).mono ?_; rintro e w' ⟨rfl, hb⟩; have hH := HeldL.next hb (S2.held (by assumption)); have hzz := hH.size mg; obtain ⟨hc, hf⟩ := bcell hb; try (have hb2 := below_tr (by assumption) hb; obtain ⟨hc2, hf2⟩ := bcell hb2)) | (go_at_call 12; refine (itvDoI _ _ _ _ _ _).mono ?_; rintro e w' ⟨rfl, hb⟩; have hH := HeldL.next hb (S2.held (by assumption)); have hzz := hH.size mg; obtain ⟨hc, hf⟩ := bcell hb; try (have hb2 := below_tr (by assumption) hb; obtain ⟨hc2, hf2⟩ := bcell hb2)))
      all_goals (go_wp2_with fail)
      all_goals go_meet
      all_goals first |  exact ⟨_, rfl, by omega, rfl, HeldL.new hH⟩ | exact ⟨_, rfl, by omega, rfl, HeldL.old (by assumption) (by omega) (qT1 _ (by omega)) hH⟩ | exact ⟨_, rfl, by omega, rfl, HeldL.oldDrew (by assumption) (by omega) (qT1 _ (by omega)) hH⟩
    case rest =>
      obtain ⟨gg, rfl, hgg, rfl, h2⟩ := hcut
      have c0 := h2.cell (List.mem_cons_of_mem _ mg) (i := 0) rfl
      have c1 := h2.cell (List.mem_cons_of_mem _ mg) (i := 1) rfl
      have c2 := h2.cell List.mem_cons_self (i := 0) rfl
      have c3 := h2.cell List.mem_cons_self (i := 1) rfl
      clear qT1 nT1 zT1 lT1 mm1 h1
      go_wp2_with (go_at_call 9; refine (eqItv _ _ _ _ _).mono ?_; rintro e w' ⟨rfl, hb⟩)
      go_ret
      exact ⟨rfl, (h2.next hb).below⟩

theorem contract (H : Type) (enc : TypeId × Value → H) (W : World) (base : Nat) (args : Array Value) (ds gs : List (DataW H)) (before : List MemPlace)
    (hval : ∀ (j : Nat) t v, Try.f4.params[j]? = some t → args[j]? = some v → Value.okWide Try.prog W .any base t v)
    (hW : DataW.Whole enc Try.prog Try.f4.params.toList Rows.fnExactItvDoSpec.vars false W args.toList ds gs before) :
    Calls Try.prog 4 args W fun e W' => ∃ v, e = .returned v ∧ Rows.fnExactItvDoSpec.post enc Try.prog Try.f4 false true false false W args v W' := by
  have hW' := hW
  obtain ⟨p, q, hA0, hV, rfl, hfz, hnd⟩ := hW
  have hA : DataW.TrodAll enc Try.prog W 0 (fun _ => true) true Try.f4.params.toList args.toList ds p := hA0
  rw [Try.params4] at hA hval
  obtain ⟨v0, vs0, d0, ds0, p0, q0, hargs, rfl, rfl, h0, r0'⟩ := trodAll_cons hA
  obtain ⟨v1, vs1, d1, ds1, p1, q1, rfl, rfl, rfl, h1, r1'⟩ := trodAll_cons r0'
  obtain ⟨v2, vs2, d2, ds2, p2, q2, rfl, rfl, rfl, h2, r2'⟩ := trodAll_cons r1'
  obtain ⟨rfl, rfl, rfl⟩ := trodAll_nil r2'
  obtain rfl : args = #[v0, v1, v2] := by cases args; simp_all
  obtain ⟨rfl, rfl⟩ := trodVars_none hV
  obtain ⟨a0, rfl, rfl, rfl, w0⟩ := open_int Try.underlying3 (hval 0 3 v0 rfl rfl) h0
  obtain ⟨c01, c11, y01, y11, m1, rfl, rfl, rfl, hy01, hy11⟩ := Joins.open_agg2 Try.underlying27 (by kernel_rfl) (by kernel_rfl) (hval 1 27 v1 rfl rfl) h1
  obtain ⟨lo1, e01, rfl, wl1⟩ := DataW.trod_int Try.underlying3 hy01
  obtain ⟨hi1, e11, rfl, wh1⟩ := DataW.trod_int Try.underlying3 hy11
  simp at e01 e11
  subst e01 e11
  obtain ⟨c02, c12, y02, y12, m2, rfl, rfl, rfl, hy02, hy12⟩ := Joins.open_agg2 Try.underlying27 (by kernel_rfl) (by kernel_rfl) (hval 2 27 v2 rfl rfl) h2
  obtain ⟨lo2, e02, rfl, wl2⟩ := DataW.trod_int Try.underlying3 hy02
  obtain ⟨hi2, e12, rfl, wh2⟩ := DataW.trod_int Try.underlying3 hy12
  simp at e02 e12
  subst e02 e12
  clear hA0
  refine (walk a0 w0 lo1 hi1 wl1 wh1 lo2 hi2 wl2 wh2 W ).mono fun e W' ⟨he, bel⟩ => ?_
  subst he
  exact ⟨_, rfl, _, _, _, [], [], [], hW', trodAll_mk1 (shut_bool Try.underlying4 _), (trodAll_cons_mk (shut_int Try.underlying3 w0) (trodAll_cons_mk (Joins.shut_agg2 (y0 := (.lit (.int .i64 lo1), [])) (y1 := (.lit (.int .i64 hi1), [])) Try.underlying27 (by kernel_rfl) (by kernel_rfl) ⟨1, by simp [DataW.trod, Try.underlying3, wl1]⟩ ⟨1, by simp [DataW.trod, Try.underlying3, wh1]⟩) (trodAll_cons_mk (Joins.shut_agg2 (y0 := (.lit (.int .i64 lo2), [])) (y1 := (.lit (.int .i64 hi2), [])) Try.underlying27 (by kernel_rfl) (by kernel_rfl) ⟨1, by simp [DataW.trod, Try.underlying3, wl2]⟩ ⟨1, by simp [DataW.trod, Try.underlying3, wh2]⟩) trodAll_mk0))), rfl, bel.frame _, fun h => by cases h⟩

set_option maxRecDepth 100000 in
theorem lifted (os : Os) (started : os.Started) (H : Type) (enc : TypeId × Value → H) :
    ReturnsInHanded {} Try.checked os 4 .any (Rows.fnExactItvDoSpec.pre6 enc Try.prog Try.f4 Rows.fnExactItvDoRow.domain false) (Rows.fnExactItvDoSpec.post enc Try.prog Try.f4 false true false false) := by
  refine returnsInHanded_of_change (C := Try.checked) own started (by kernel_rfl) Try.func4
    (ChangeSpec.witness6 (enc := enc) (C := Try.checked) false ⟨#[], #[.int .i64 0, .agg #[.int .i64 0, .int .i64 0], .agg #[.int .i64 0, .int .i64 0]], []⟩ 8 (by kernel_rfl) (by kernel_rfl) (by kernel_rfl) (by kernel_rfl)) ?_
  intro W base args ds gs before hval hW _ _
  exact contract H enc W base args ds gs before hval hW

theorem proved : Rows.FnExactItvDoSaid :=
  OpenClaim.holds_of_wide 4 Try.f4 rfl rfl rfl rfl rfl rfl rfl ⟨rfl, rfl, rfl, rfl, rfl⟩ rfl rfl rfl rfl rfl (by kernel_rfl) Try.func4 (by kernel_rfl)
    (of_decide_eq_true (by kernel_rfl)) (by unfold Func.isWrapper; first | (rw [if_pos (by decide +kernel)]; kernel_rfl) | (rw [if_neg (by decide +kernel)]; exact ⟨rfl, rfl⟩))
    (fun os started H enc _ => lifted os started H enc)
#print axioms proved
end Go.Proofs.Ytpgdefaiojjjfab.fnExactItvDo
