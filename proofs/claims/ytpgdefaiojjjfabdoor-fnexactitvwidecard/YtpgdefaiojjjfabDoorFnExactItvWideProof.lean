/- Whatever four ends are handed in, the law FnExactItvWide returns true: the program's ItvWide answers as the model's. Condition: the table of steps that the row lists holds what its initialiser lays; the card ties that to the program's text. -/
import Derived.Test.YtpgdefaiojjjfabDoorNums
import Derived.Test.YtpgdefaiojjjfabDoorHeld
import Derived.Test.YtpgdefaiojjjfabDoorItv
import Derived.Test.YtpgdefaiojjjfabDoorItvI
import Derived.Test.YtpgdefaiojjjfabDoorItvStepI
import Derived.Test.YtpgdefaiojjjfabDoorItvWideI
import Derived.Test.YtpgdefaiojjjfabDoorItvWide
import Derived.Test.YtpgdefaiojjjfabDoorCards
import Derived.Test.YtpgdefaiojjjfabDoorTie
import Derived.Deep.RegionHeld3
import Derived.Deep.DeepCutAuto
import Derived.WalkKit
import Derived.ProofKit
import Derived.OpenShut
import Derived.ShutString
import Derived.ChangeOld
import Derived.Below
import Derived.Lib.SmallJoins
import Derived.ChangeVars
import Derived.Carry
import Derived.Deep.DeepHandedRow
import Derived.Lib.LaidTab
import Derived.LaidSub
namespace Go.Proofs.YtpgdefaiojjjfabDoor.fnExactItvWide
open Go.ChangeShapes Go.WideShapes Go.ChangeAt Go.RowKit
open Go.ChangeMaps (open_string shut_string)
set_option linter.unusedVariables false

theorem own : ownKnob Tryd.prog.godebug = none := by kernel_rfl
theorem laidOut : laidOutB Tryd.prog = true := by kernel_rfl
theorem gVar : Tryd.prog.globalNamed "loop.example/outwork/impl.wideSteps" = some 0 := by kernel_rfl
theorem gVarType : (Tryd.prog.globals[0]?).map (·.type) = some 37 := by kernel_rfl
theorem cellsVar : Tryd.prog.cellsOf 37 = 11 := by kernel_rfl
theorem cellsVarOne : Tryd.prog.cellsOf 3 = 1 := by kernel_rfl
theorem varTable {W : World} (h : laidMetH Tryd.prog Rows.fnExactItvWideRow.laid W) : Lib.TabIs Tryd.prog W "loop.example/outwork/impl.wideSteps" .i64 [-32768, -1000, -100, -10, -1, 0, 1, 10, 100, 1000, 32767] := by
  have h1 := h.filter (fun x => x.1 == "loop.example/outwork/impl.wideSteps")
  have e : Rows.fnExactItvWideRow.laid.filter (fun x => x.1 == "loop.example/outwork/impl.wideSteps") = [("loop.example/outwork/impl.wideSteps", Lib.tabData .i64 [-32768, -1000, -100, -10, -1, 0, 1, 10, 100, 1000, 32767])] := by kernel_rfl
  rw [e] at h1
  exact Lib.tabIs_of_head (rest := []) gVar gVarType Tryd.underlying37 Tryd.underlying3 cellsVarOne cellsVar h1
theorem varStays {W W' : World} {cs : Array Value} (h : W.var? Tryd.prog "loop.example/outwork/impl.wideSteps" = some cs) (hb : Below W.heap.size W W') : W'.var? Tryd.prog "loop.example/outwork/impl.wideSteps" = some cs := by
  unfold World.var? at *
  rw [gVar] at h ⊢
  simp only [Option.bind_some] at h ⊢
  have hlt : 0 < W.heap.size := by
    rcases Nat.lt_or_ge 0 W.heap.size with h' | h'
    · exact h'
    · rw [Array.getElem?_eq_none h'] at h; simp at h
  rw [hb.block _ hlt]
  exact h

def S2 (w : World) (L : List (Nat × List Value)) (a b c d : Int) (W : World) : Prop :=
  W.cell? ⟨w.heap.size, 0, none⟩ = some (.int .i64 a) ∧ W.cell? ⟨w.heap.size, 1, none⟩ = some (.int .i64 b) ∧ W.cell? ⟨w.heap.size + 1, 0, none⟩ = some (.int .i64 c) ∧ W.cell? ⟨w.heap.size + 1, 1, none⟩ = some (.int .i64 d) ∧ HeldL w L W
theorem s2_of {w : World} {L : List (Nat × List Value)} {a b c d : Int} (hm : (w.heap.size, [.int .i64 a, .int .i64 b]) ∈ L ∧ (w.heap.size + 1, [.int .i64 c, .int .i64 d]) ∈ L) {W : World} (h : HeldL w L W) : S2 w L a b c d W :=
  ⟨h.cell hm.1 rfl, h.cell hm.1 rfl, h.cell hm.2 rfl, h.cell hm.2 rfl, h⟩
theorem S2.held {w : World} {L : List (Nat × List Value)} {a b c d : Int} {W : World} (h : S2 w L a b c d W) : HeldL w L W := h.2.2.2.2

set_option maxHeartbeats 8000000 in
theorem walk (lo0 hi0 : Int) (wl0 : (Lit.int .i64 lo0).wf = true) (wh0 : (Lit.int .i64 hi0).wf = true) (lo1 hi1 : Int) (wl1 : (Lit.int .i64 lo1).wf = true) (wh1 : (Lit.int .i64 hi1).wf = true) (w : World) (hvar : Lib.TabIs Tryd.prog w "loop.example/outwork/impl.wideSteps" .i64 [-32768, -1000, -100, -10, -1, 0, 1, 10, 100, 1000, 32767]) :
    Calls Tryd.prog 3 #[.agg #[.int .i64 lo0, .int .i64 hi0], .agg #[.int .i64 lo1, .int .i64 hi1]] w fun e w' => e = .returned (.bool true) ∧ Below w.heap.size w w' := by
  go_enter Tryd.func3, Tryd.ntmps3
  go_wp2_with fail
  generalize hw0 : (w.alloc (Obj.cells #[Value.int IntKind.i64 lo0, Value.int IntKind.i64 hi0] 23)).alloc (Obj.cells #[Value.int IntKind.i64 lo1, Value.int IntKind.i64 hi1] 23) = w0
  obtain ⟨L, hL⟩ : ∃ L, L = [(w.heap.size + 1, [Value.int .i64 lo1, Value.int .i64 hi1]), (w.heap.size, [Value.int .i64 lo0, Value.int .i64 hi0])] := ⟨_, rfl⟩
  have h0 : HeldL w L w0 := by
    rw [← hw0, hL]
    have e : w.heap.size + 1 = (w.alloc (Obj.cells #[Value.int IntKind.i64 lo0, Value.int IntKind.i64 hi0] 23)).heap.size := by simp
    rw [e]
    exact HeldL.new (HeldL.new (HeldL.nil w))
  have mm : (w.heap.size, [Value.int .i64 lo0, .int .i64 hi0]) ∈ L ∧ (w.heap.size + 1, [Value.int .i64 lo1, .int .i64 hi1]) ∈ L := by rw [hL]; simp
  obtain ⟨T, hT⟩ : ∃ T, T = w.heap.size + 1 := ⟨_, rfl⟩
  have wT : w.heap.size < T := by omega
  have mT : (T, [Value.int .i64 lo1, .int .i64 hi1]) ∈ L := by rw [hT]; exact mm.2
  have lT : ∀ e ∈ L, e.1 ≤ T := by
    rw [hL, hT]; intro e he
    simp at he
    rcases he with rfl | rfl <;> simp only [] <;> omega
  have qT : ∀ W : World, T < W.heap.size → ∀ e ∈ L, e.1 < W.heap.size := fun W h e he => Nat.lt_of_le_of_lt (lT e he) h
  have nT : ∀ k : Nat, T < k → ∀ e ∈ L, e.1 ≠ k := fun k h e he => by have := lT e he; omega
  have zT : T < w0.heap.size := h0.size mT
  clear hw0 hL hT
  go_cut [5] (fun p0 W => ∃ g0, p0 = .pointer (some ⟨g0, 0, none⟩) ∧ T < g0 ∧ HeldL w ((g0, [.int .i64 (wideLo lo0 hi0 lo1 hi1), .int .i64 (wideHi lo0 hi0 lo1 hi1)]) :: L) W)
  case first =>
    go_region_held3 (fun W => W.cell? ⟨w.heap.size, 0, none⟩ = some (.int .i64 lo0) ∧ W.cell? ⟨w.heap.size, 1, none⟩ = some (.int .i64 hi0) ∧ W.cell? ⟨w.heap.size + 1, 0, none⟩ = some (.int .i64 lo1) ∧ W.cell? ⟨w.heap.size + 1, 1, none⟩ = some (.int .i64 hi1) ∧ HeldL w L W) (first | exact s2_of mm h0.drew | exact s2_of mm hH | exact s2_of mm (HeldL.alloc _ (S2.held (by assumption))) | exact s2_of mm (HeldL.realloc (by omega) (qT _ (by assumption)) (S2.held (by assumption))) | exact s2_of mm (HeldL.setCell _ _ (by dsimp only; omega) (nT _ (by dsimp only; omega)) (HeldL.setCell _ _ (by dsimp only; omega) (nT _ (by dsimp only; omega)) (S2.held (by assumption))))) (first | (go_at_call 6; refine (toItv _ _ _).mono ?_; rintro e w' ⟨rfl, hb⟩; have hH := HeldL.next hb (S2.held (by assumption)); have hzz := hH.size mT; obtain ⟨hc, hf⟩ := bcell hb; try (have hb2 := below_tr (by assumption) hb; obtain ⟨hc2, hf2⟩ := bcell hb2)) | (go_at_call 5; refine (wideS _ _ _ _ _).mono ?_; rintro e w' ⟨rfl, hb⟩; have hH := HeldL.next hb (S2.held (by assumption)); have hzz := hH.size mT; obtain ⟨hc, hf⟩ := bcell hb; try (have hb2 := below_tr (by assumption) hb; obtain ⟨hc2, hf2⟩ := bcell hb2)))
    all_goals (go_wp2_with fail)
    all_goals go_meet
    all_goals first |  exact ⟨_, rfl, by omega, HeldL.new hH⟩ | exact ⟨_, rfl, by omega, HeldL.old (by assumption) (by omega) (qT _ (by omega)) hH⟩ | exact ⟨_, rfl, by omega, HeldL.oldDrew (by assumption) (by omega) (qT _ (by omega)) hH⟩
  case rest =>
    obtain ⟨g, rfl, hg, h1⟩ := hcut
    have mg : (g, [Value.int .i64 (wideLo lo0 hi0 lo1 hi1), .int .i64 (wideHi lo0 hi0 lo1 hi1)]) ∈ (g, [Value.int .i64 (wideLo lo0 hi0 lo1 hi1), .int .i64 (wideHi lo0 hi0 lo1 hi1)]) :: L := List.mem_cons_self
    have mm1 := And.intro (List.mem_cons_of_mem (g, [Value.int .i64 (wideLo lo0 hi0 lo1 hi1), .int .i64 (wideHi lo0 hi0 lo1 hi1)]) mm.1) (List.mem_cons_of_mem (g, [Value.int .i64 (wideLo lo0 hi0 lo1 hi1), .int .i64 (wideHi lo0 hi0 lo1 hi1)]) mm.2)
    have lT1 : ∀ e ∈ (g, [Value.int .i64 (wideLo lo0 hi0 lo1 hi1), .int .i64 (wideHi lo0 hi0 lo1 hi1)]) :: L, e.1 ≤ g := fun e he => by
      rcases List.mem_cons.1 he with rfl | he
      · exact Nat.le_refl _
      · have := lT e he; omega
    have wT1 : w.heap.size < g := by omega
    generalize (g, [Value.int .i64 (wideLo lo0 hi0 lo1 hi1), .int .i64 (wideHi lo0 hi0 lo1 hi1)]) :: L = L1 at h1 mg mm1 lT1
    have qT1 : ∀ W : World, g < W.heap.size → ∀ e ∈ L1, e.1 < W.heap.size := fun W h e he => Nat.lt_of_le_of_lt (lT1 e he) h
    have nT1 : ∀ k : Nat, g < k → ∀ e ∈ L1, e.1 ≠ k := fun k h e he => by have := lT1 e he; omega
    have zT1 : g < wc.heap.size := h1.size mg
    clear qT nT zT lT mT mm h0
    go_wp2_with fail
    go_cut [6] (fun p0 W => ∃ g0, p0 = .pointer (some ⟨g0, 0, none⟩) ∧ g < g0 ∧ HeldL w ((g0, [.int .i64 (wideLo lo0 hi0 lo1 hi1), .int .i64 (wideHi lo0 hi0 lo1 hi1)]) :: L1) W)
    case first =>
      go_region_held3 (fun W => W.cell? ⟨w.heap.size, 0, none⟩ = some (.int .i64 lo0) ∧ W.cell? ⟨w.heap.size, 1, none⟩ = some (.int .i64 hi0) ∧ W.cell? ⟨w.heap.size + 1, 0, none⟩ = some (.int .i64 lo1) ∧ W.cell? ⟨w.heap.size + 1, 1, none⟩ = some (.int .i64 hi1) ∧ HeldL w L1 W) (first | exact s2_of mm1 h1.drew | exact s2_of mm1 hH | exact s2_of mm1 (HeldL.alloc _ (S2.held (by assumption))) | exact s2_of mm1 (HeldL.realloc (by omega) (qT1 _ (by assumption)) (S2.held (by assumption))) | exact s2_of mm1 (HeldL.setCell _ _ (by dsimp only; omega) (nT1 _ (by dsimp only; omega)) (HeldL.setCell _ _ (by dsimp only; omega) (nT1 _ (by dsimp only; omega)) (S2.held (by assumption))))) (first | (go_at_call 6; refine (toItv _ _ _).mono ?_; rintro e w' ⟨rfl, hb⟩; have hH := HeldL.next hb (S2.held (by assumption)); have hzz := hH.size mg; obtain ⟨hc, hf⟩ := bcell hb; try (have hb2 := below_tr (by assumption) hb; obtain ⟨hc2, hf2⟩ := bcell hb2)) | (go_at_call 7; refine (wideI _ _ _ _ _ (steps_below hvar (HeldL.below (S2.held (by assumption))))).mono ?_; rintro e w' ⟨rfl, hb⟩; have hH := HeldL.next hb (S2.held (by assumption)); have hzz := hH.size mg; obtain ⟨hc, hf⟩ := bcell hb; try (have hb2 := below_tr (by assumption) hb; obtain ⟨hc2, hf2⟩ := bcell hb2)))
      all_goals (go_wp2_with fail)
      all_goals go_meet
      all_goals first |  exact ⟨_, rfl, by omega, HeldL.new hH⟩ | exact ⟨_, rfl, by omega, HeldL.old (by assumption) (by omega) (qT1 _ (by omega)) hH⟩ | exact ⟨_, rfl, by omega, HeldL.oldDrew (by assumption) (by omega) (qT1 _ (by omega)) hH⟩
    case rest =>
      obtain ⟨gg, rfl, hgg, h2⟩ := hcut
      have c0 := h2.cell (List.mem_cons_of_mem _ mg) (i := 0) rfl
      have c1 := h2.cell (List.mem_cons_of_mem _ mg) (i := 1) rfl
      have c2 := h2.cell List.mem_cons_self (i := 0) rfl
      have c3 := h2.cell List.mem_cons_self (i := 1) rfl
      clear qT1 nT1 zT1 lT1 mm1 h1
      go_wp2_with (go_at_call 8; refine (eqItv _ _ _ _ _).mono ?_; rintro e w' ⟨rfl, hb⟩)
      go_ret
      exact ⟨rfl, (h2.next hb).below⟩

theorem contract (H : Type) (enc : TypeId × Value → H) (W : World) (base : Nat) (args : Array Value) (ds gs : List (DataW H)) (before : List MemPlace)
    (hval : ∀ (j : Nat) t v, Tryd.f3.params[j]? = some t → args[j]? = some v → Value.okWide Tryd.prog W .any base t v)
    (hW : DataW.Whole enc Tryd.prog Tryd.f3.params.toList Rows.fnExactItvWideSpec.vars false W args.toList ds gs before) (hL : laidMetH Tryd.prog Rows.fnExactItvWideRow.laid W) :
    Calls Tryd.prog 3 args W fun e W' => ∃ v, e = .returned v ∧ Rows.fnExactItvWideSpec.post enc Tryd.prog Tryd.f3 false true false false W args v W' := by
  have hW' := hW
  obtain ⟨p, q, hA0, hV, rfl, hfz, hnd⟩ := hW
  have hA : DataW.TrodAll enc Tryd.prog W 0 (fun _ => true) true Tryd.f3.params.toList args.toList ds p := hA0
  rw [Tryd.params3] at hA hval
  obtain ⟨v0, vs0, d0, ds0, p0, q0, hargs, rfl, rfl, h0, r0'⟩ := trodAll_cons hA
  obtain ⟨v1, vs1, d1, ds1, p1, q1, rfl, rfl, rfl, h1, r1'⟩ := trodAll_cons r0'
  obtain ⟨rfl, rfl, rfl⟩ := trodAll_nil r1'
  obtain rfl : args = #[v0, v1] := by cases args; simp_all
  obtain ⟨gv, tv, csv, fuelv, dv, pv, rfl, hgv, htv, hvarv, hdv, rfl⟩ := trodVars_one hV
  obtain rfl := Option.some.inj (gVar.symm.trans hgv)
  obtain rfl := Option.some.inj (gVarType.symm.trans htv)
  have ltv : ∀ x ∈ pv, x.block < W.heap.size := DataW.trod_lt fuelv _ _ _ hdv
  obtain ⟨c00, c10, y00, y10, m0, rfl, rfl, rfl, hy00, hy10⟩ := Joins.open_agg2 Tryd.underlying23 (by kernel_rfl) (by kernel_rfl) (hval 0 23 v0 rfl rfl) h0
  obtain ⟨lo0, e00, rfl, wl0⟩ := DataW.trod_int Tryd.underlying3 hy00
  obtain ⟨hi0, e10, rfl, wh0⟩ := DataW.trod_int Tryd.underlying3 hy10
  simp at e00 e10
  subst e00 e10
  obtain ⟨c01, c11, y01, y11, m1, rfl, rfl, rfl, hy01, hy11⟩ := Joins.open_agg2 Tryd.underlying23 (by kernel_rfl) (by kernel_rfl) (hval 1 23 v1 rfl rfl) h1
  obtain ⟨lo1, e01, rfl, wl1⟩ := DataW.trod_int Tryd.underlying3 hy01
  obtain ⟨hi1, e11, rfl, wh1⟩ := DataW.trod_int Tryd.underlying3 hy11
  simp at e01 e11
  subst e01 e11
  clear hA0
  refine (walk lo0 hi0 wl0 wh0 lo1 hi1 wl1 wh1 W  (varTable hL)).mono fun e W' ⟨he, bel⟩ => ?_
  subst he
  obtain ⟨fq, hq⟩ := Below.trod (v := .agg csv) laidOut (by kernel_rfl) (of_decide_eq_true (by kernel_rfl)) ⟨fuelv, hdv⟩ bel ltv
  exact ⟨_, rfl, _, _, _, [], [], _, hW', trodAll_mk1 (shut_bool Tryd.underlying4 _), (trodAll_cons_mk (Joins.shut_agg2 (y0 := (.lit (.int .i64 lo0), [])) (y1 := (.lit (.int .i64 hi0), [])) Tryd.underlying23 (by kernel_rfl) (by kernel_rfl) ⟨1, by simp [DataW.trod, Tryd.underlying3, wl0]⟩ ⟨1, by simp [DataW.trod, Tryd.underlying3, wh0]⟩) (trodAll_cons_mk (Joins.shut_agg2 (y0 := (.lit (.int .i64 lo1), [])) (y1 := (.lit (.int .i64 hi1), [])) Tryd.underlying23 (by kernel_rfl) (by kernel_rfl) ⟨1, by simp [DataW.trod, Tryd.underlying3, wl1]⟩ ⟨1, by simp [DataW.trod, Tryd.underlying3, wh1]⟩) trodAll_mk0)), trodVars_mk1 gVar gVarType (varStays hvarv bel) hq, bel.frame _, fun h => by cases h⟩

def extra : Array Obj := #[]
def setRow (cs : Array Value) : Obj → Obj
  | .cells _ t frozen => .cells cs t frozen
  | o => o
def tabs (low : Nat) (h : Array Obj) : Array Obj :=
  (h.modify 0 (setRow #[.int .i64 (-32768), .int .i64 (-1000), .int .i64 (-100), .int .i64 (-10), .int .i64 (-1), .int .i64 0, .int .i64 1, .int .i64 10, .int .i64 100, .int .i64 1000, .int .i64 32767]))
theorem laid_met (os : Os) : laidMet Tryd.prog Rows.fnExactItvWideRow.laid (({ World.holding Tryd.prog os ⟨extra, #[], []⟩ with heap := tabs (World.holding Tryd.prog default ⟨#[], #[], []⟩).heap.size (World.holding Tryd.prog os ⟨extra, #[], []⟩).heap }).forCall (fun _ _ => 0) ⟨#[], #[.agg #[.int .i64 0, .int .i64 0], .agg #[.int .i64 0, .int .i64 0]], []⟩).memory :=
  laidMet_of_run' 8 (by kernel_rfl) (by kernel_rfl)
theorem reads (os : Os) {H : Type} (enc : TypeId × Value → H) : ∃ places, DataW.whole enc Tryd.prog (({ World.holding Tryd.prog os ⟨extra, #[], []⟩ with heap := tabs (World.holding Tryd.prog default ⟨#[], #[], []⟩).heap.size (World.holding Tryd.prog os ⟨extra, #[], []⟩).heap }).forCall (fun _ _ => 0) ⟨#[], #[.agg #[.int .i64 0, .int .i64 0], .agg #[.int .i64 0, .int .i64 0]], []⟩).memory Tryd.f3.params.toList Rows.fnExactItvWideSpec.vars false (#[.agg #[.int .i64 0, .int .i64 0], .agg #[.int .i64 0, .int .i64 0]] : Array Value).toList 8 = some ([.agg [.lit (.int .i64 0), .lit (.int .i64 0)], .agg [.lit (.int .i64 0), .lit (.int .i64 0)]], [Rows.laid_loop_example_outwork_impl_wideSteps], places) :=
  ⟨MemPlace.row ⟨0, 0, none⟩ 11, by kernel_rfl⟩

set_option maxRecDepth 100000 in
theorem lifted (os : Os) (started : os.Started) (H : Type) (enc : TypeId × Value → H) (F : Stop.Interp) :
    ReturnsInHanded {} Tryd.checked os 3 .any ((OpenSpec.ofChange Rows.fnExactItvWideSpec).preRow enc Tryd.prog Tryd.f3 Rows.fnExactItvWideRow.domain false Rows.fnExactItvWideRow.laid) (((OpenSpec.ofChange Rows.fnExactItvWideSpec).at F).post enc Tryd.prog Tryd.f3 false true false false) := by
  obtain ⟨places, hx⟩ := reads os enc
  refine returnsInHanded_of_row (C := Tryd.checked) (s := OpenSpec.ofChange Rows.fnExactItvWideSpec) own started (by kernel_rfl) Tryd.func3
    (witness_row_at (enc := enc) (C := Tryd.checked) false ({ World.holding Tryd.prog os ⟨extra, #[], []⟩ with heap := tabs (World.holding Tryd.prog default ⟨#[], #[], []⟩).heap.size (World.holding Tryd.prog os ⟨extra, #[], []⟩).heap }) #[.agg #[.int .i64 0, .int .i64 0], .agg #[.int .i64 0, .int .i64 0]] rfl (by kernel_rfl) (by kernel_rfl) (by kernel_rfl)
      (OpenSpec.preRow_of_cond 8 hx (by kernel_rfl) (fun k hk => by cases hk) (by kernel_rfl) (laid_met os))) ?_
  intro W base args ds gs before hval hW _ _ _ hL _ _
  exact contract H enc W base args ds gs before hval hW hL

theorem said : Rows.FnExactItvWideSaid :=
  OpenClaim.holds_of_cond 3 Tryd.f3 rfl rfl rfl rfl rfl rfl rfl ⟨rfl, rfl, rfl, rfl, rfl⟩ rfl rfl rfl rfl rfl (by kernel_rfl) Tryd.func3 (by kernel_rfl)
    (of_decide_eq_true (by kernel_rfl)) (by unfold Func.isWrapper; first | (rw [if_pos (by decide +kernel)]; kernel_rfl) | (rw [if_neg (by decide +kernel)]; exact ⟨rfl, rfl⟩))
    (fun os started H enc _ F => by rw [OpenClaim.pre_eq_preRow]; exact lifted os started H enc F)

theorem plain (f : FuncId) (fn : Func) (hf : Tryd.pinned.checked.prog.funcNamed "loop.example/outwork/laws.FnExactItvWide" = some f) (hfn : Tryd.pinned.checked.prog.funcs[f]? = some fn) :
    false = Tryd.pinned.checked.prog.looks [] ∧ ∀ (j : Nat) t, fn.params[j]? = some t → Tryd.pinned.checked.prog.wantsStandIn t = false := by
  obtain rfl : f = 3 := Option.some.inj ((show Tryd.prog.funcNamed "loop.example/outwork/laws.FnExactItvWide" = some 3 by kernel_rfl).symm.trans hf) |>.symm
  obtain rfl : fn = Tryd.f3 := (Option.some.inj (Tryd.func3.symm.trans hfn)).symm
  refine ⟨by kernel_rfl, fun j t ht => ?_⟩
  rw [Tryd.params3] at ht
  obtain rfl : t = 23 := by simpa using Array.mem_of_getElem? ht
  · exact (show Tryd.prog.wantsStandIn 23 = false by kernel_rfl)

theorem proved : Rows.FnExactItvWideCardSaid :=
  Claim7.holds_tied_plain_at .later [] _ _ _ _ said (fun _ h => by cases h) (by kernel_rfl) (fun _ h => by cases h) fnExactItvWide_row_tie rfl ⟨rfl, rfl⟩ (by kernel_rfl) rfl plain (by kernel_rfl)
#print axioms proved
end Go.Proofs.YtpgdefaiojjjfabDoor.fnExactItvWide
