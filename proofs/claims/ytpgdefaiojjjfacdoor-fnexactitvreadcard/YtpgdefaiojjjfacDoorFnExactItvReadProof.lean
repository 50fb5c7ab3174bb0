/- Whatever text is handed in, the law FnExactItvRead returns true: the program's ItvRead (by strings.Cut, strconv.Atoi and Itoa) answers as the model's. Conditions: the tables and errors of the library that the row lists hold what their initialisers lay; the card ties that to the program's text; the library's variable internal/bytealg.MaxLen holds some int, as the row's own first world has it. -/
import Derived.Test.YtpgdefaiojjjfacDoorNums
import Derived.Test.YtpgdefaiojjjfacDoorHeld
import Derived.Test.YtpgdefaiojjjfacDoorItv
import Derived.Test.YtpgdefaiojjjfacDoorItvI
import Derived.Test.YtpgdefaiojjjfacDoorText
import Derived.Test.YtpgdefaiojjjfacDoorRead
import Derived.Test.YtpgdefaiojjjfacDoorPlainRead
import Derived.Test.YtpgdefaiojjjfacDoorItvReadI
import Derived.Test.YtpgdefaiojjjfacDoorItvRead
import Derived.Test.YtpgdefaiojjjfacDoorCards
import Derived.Test.YtpgdefaiojjjfacDoorTie
import Derived.Deep.RegionHeld3
import Derived.Deep.DeepCutAuto
import Derived.WalkKit
import Derived.ProofKit
import Derived.OpenShut
import Derived.ShutString
import Derived.ChangeOld
import Derived.Below
import Derived.Deep.DeepHandedRow
import Derived.Lib.LaidTab
import Derived.LaidSub
import Derived.Stop.LaidErr
namespace Go.Proofs.YtpgdefaiojjjfacDoor.fnExactItvRead
open Go.ChangeShapes Go.WideShapes Go.ChangeAt Go.RowKit
open Go.ChangeMaps (open_string shut_string)
set_option linter.unusedVariables false

theorem own : ownKnob Tryd.prog.godebug = none := by kernel_rfl
theorem laidOut : laidOutB Tryd.prog = true := by kernel_rfl
theorem gTab : Tryd.prog.globalNamed "internal/strconv.uint64pow10" = some 3 := by kernel_rfl
theorem gTabType : (Tryd.prog.globals[3]?).map (·.type) = some 72 := by kernel_rfl
theorem cellsTab : Tryd.prog.cellsOf 72 = 20 := by kernel_rfl
theorem cellsOne : Tryd.prog.cellsOf 53 = 1 := by kernel_rfl
theorem table {W : World} (h : laidMetH Tryd.prog Rows.fnExactItvReadRow.laid W) : Lib.TabIs Tryd.prog W "internal/strconv.uint64pow10" .u64 Lib.pow10Tab := by
  have h1 := h.filter (fun x => x.1 == "internal/strconv.uint64pow10")
  have e : Rows.fnExactItvReadRow.laid.filter (fun x => x.1 == "internal/strconv.uint64pow10") = [("internal/strconv.uint64pow10", Lib.tabData .u64 Lib.pow10Tab)] := by kernel_rfl
  rw [e] at h1
  exact Lib.tabIs_of_head (rest := []) gTab gTabType Tryd.underlying72 Tryd.underlying53 cellsOne cellsTab h1
theorem cellsErr : Tryd.prog.cellsOf 65 = 1 := by kernel_rfl
theorem cellsStr : Tryd.prog.cellsOf 9 = 1 := by kernel_rfl
theorem star : "*" ++ "errors.errorString" = "*errors.errorString" := by decide
theorem rowErr (u : TypeId) (h : Tryd.prog.typeName? 3 u = some "*errors.errorString") : u = 63 :=
  typeName_ptr_named (nm := "errors.errorString") (by rw [star]; kernel_rfl) (by kernel_rfl) (by decide) u (by rw [star]; exact h)
theorem sent_q {W : World} (h : laidMetH Tryd.prog Rows.fnExactItvReadRow.laid W) : ∃ a : Addr, W.var? Tryd.prog "strconv.ErrRange" = some #[.iface 63 (.pointer (some a))] := by
  have h1 := h.filter (fun x => x.1 == "strconv.ErrRange")
  have e : Rows.fnExactItvReadRow.laid.filter (fun x => x.1 == "strconv.ErrRange") = [("strconv.ErrRange", Rows.laid_strconv_ErrRange)] := by kernel_rfl
  rw [e] at h1
  obtain ⟨a, s, hv, -, -, -⟩ := laid_sentinel (g := 2) (r := []) h1 (by kernel_rfl) (by kernel_rfl) Tryd.underlying34 rowErr Tryd.underlying63 Tryd.underlying65 rfl rfl Tryd.underlying9 cellsErr cellsStr
  exact ⟨a, hv⟩
theorem sent_p {W : World} (h : laidMetH Tryd.prog Rows.fnExactItvReadRow.laid W) : ∃ a : Addr, W.var? Tryd.prog "strconv.ErrSyntax" = some #[.iface 63 (.pointer (some a))] := by
  have h1 := h.filter (fun x => x.1 == "strconv.ErrSyntax")
  have e : Rows.fnExactItvReadRow.laid.filter (fun x => x.1 == "strconv.ErrSyntax") = [("strconv.ErrSyntax", Rows.laid_strconv_ErrSyntax)] := by kernel_rfl
  rw [e] at h1
  obtain ⟨a, s, hv, -, -, -⟩ := laid_sentinel (g := 1) (r := []) h1 (by kernel_rfl) (by kernel_rfl) Tryd.underlying34 rowErr Tryd.underlying63 Tryd.underlying65 rfl rfl Tryd.underlying9 cellsErr cellsStr
  exact ⟨a, hv⟩
theorem maxLen_in {W : World} (h : W.ShapedOpen Tryd.prog) : ∃ m, W.cell? ⟨0, 0, none⟩ = some (.int .i64 m) := Tryd.laysM145.s1_3 W h


set_option maxHeartbeats 8000000 in
theorem walk (s0 : ByteArray) (hmax0 : s0.size ≤ maxLen) (w : World) (htab : Lib.TabIs Tryd.prog w "internal/strconv.uint64pow10" .u64 Lib.pow10Tab) (qe : Addr) (hq : w.var? Tryd.prog "strconv.ErrRange" = some #[.iface 63 (.pointer (some qe))]) (pe : Addr) (hp : w.var? Tryd.prog "strconv.ErrSyntax" = some #[.iface 63 (.pointer (some pe))]) (mx : Int) (hmx : w.cell? ⟨0, 0, none⟩ = some (.int .i64 mx)) :
    Calls Tryd.prog 3 #[.string s0] w fun e w' => e = .returned (.bool true) ∧ Below w.heap.size w w' := by
  by_cases hl : s0.size ≤ 1048576
  case neg =>
    have hi : (1048576 : Int) < (s0.size : Int) := by omega
    go_enter Tryd.func3, Tryd.ntmps3
    go_wp2_with fail
    go_ret
    exact ⟨rfl, Below.refl _ _⟩
  have hi : ¬ (1048576 : Int) < (s0.size : Int) := by omega
  have hmlt : 0 < w.heap.size := World.block_lt_of_cell? w _ hmx
  go_enter Tryd.func3, Tryd.ntmps3
  go_wp2_with fail
  refine (itvReadS s0 _ hl).mono ?_
  rintro e w1 ⟨x, y, b, rfl, k1, g1⟩
  have b1 := g1.alloc g1.size (.cells #[.int .i64 x, .int .i64 y] 23)
  have K1 : HeldL w1 [(w1.heap.size, [.int .i64 x, .int .i64 y])] (w1.alloc (.cells #[.int .i64 x, .int .i64 y] 23)) := HeldL.new (HeldL.nil w1)
  have R1 : Hid (IsItv s0.data.toList x y b) := k1
  clear k1
  go_wp2_with fail
  refine (itvReadI s0 _ hl (tab_below htab b1) _ _ _ _ (var_below hp b1) (var_below hq b1) mx ((b1.cell (p := ⟨0, 0, none⟩) hmlt).trans hmx)).mono ?_
  rintro e w2 ⟨x', y', b', rfl, k2, g2⟩
  obtain ⟨rfl, rfl, rfl⟩ := isItv_one R1.out k2
  have b2 := b1.trans (g2.mono b1.size)
  have K2 := HeldL.next g2 K1
  have K3 := HeldL.new (x := .int .i64 x) (y := .int .i64 y) (t := 23) K2
  have c0 := K3.cell (List.mem_cons_of_mem _ List.mem_cons_self) (i := 0) rfl
  have c1 := K3.cell (List.mem_cons_of_mem _ List.mem_cons_self) (i := 1) rfl
  clear k2 R1 K1 K2 K3
  go_wp2_with fail
  try go_region
  all_goals (go_wp2_with (go_at_call 6; refine (eqItv _ _ _ _ _).mono ?_; rintro e w' ⟨rfl, hb⟩))
  all_goals go_ret
  all_goals exact ⟨by simp, (b2.alloc b2.size _).trans (hb.mono (Nat.le_trans b2.size (by simp)))⟩

theorem contract (H : Type) (enc : TypeId × Value → H) (W : World) (base : Nat) (args : Array Value) (ds gs : List (DataW H)) (before : List MemPlace)
    (hval : ∀ (j : Nat) t v, Tryd.f3.params[j]? = some t → args[j]? = some v → Value.okWide Tryd.prog W .any base t v)
    (hW : DataW.Whole enc Tryd.prog Tryd.f3.params.toList Rows.fnExactItvReadSpec.vars false W args.toList ds gs before) (hL : laidMetH Tryd.prog Rows.fnExactItvReadRow.laid W) (hSh : W.ShapedOpen Tryd.prog) :
    Calls Tryd.prog 3 args W fun e W' => ∃ v, e = .returned v ∧ Rows.fnExactItvReadSpec.post enc Tryd.prog Tryd.f3 false true false false W args v W' := by
  have hW' := hW
  obtain ⟨p, q, hA0, hV, rfl, hfz, hnd⟩ := hW
  have hA : DataW.TrodAll enc Tryd.prog W 0 (fun _ => true) true Tryd.f3.params.toList args.toList ds p := hA0
  rw [Tryd.params3] at hA hval
  obtain ⟨v0, vs0, d0, ds0, p0, q0, hargs, rfl, rfl, h0, r0'⟩ := trodAll_cons hA
  obtain ⟨rfl, rfl, rfl⟩ := trodAll_nil r0'
  obtain rfl : args = #[v0] := by cases args; simp_all
  obtain ⟨rfl, rfl⟩ := trodVars_none hV
  obtain ⟨s0, rfl, rfl, rfl, hmax0⟩ := open_string Tryd.underlying9 (hval 0 9 v0 rfl rfl) h0
  clear hA0
  obtain ⟨qe, hq⟩ := sent_q hL
  obtain ⟨pe, hp⟩ := sent_p hL
  obtain ⟨mx, hmx⟩ := maxLen_in hSh
  refine (walk s0 hmax0 W  (table hL) qe hq pe hp mx hmx).mono fun e W' ⟨he, bel⟩ => ?_
  subst he
  exact ⟨_, rfl, _, _, _, [], [], [], hW', trodAll_mk1 (shut_bool Tryd.underlying4 _), (trodAll_cons_mk (shut_string Tryd.underlying9 hmax0) trodAll_mk0), rfl, bel.frame _, fun h => by cases h⟩

def extra : Array Obj := #[.cells #[.string ⟨#[118, 97, 108, 117, 101, 32, 111, 117, 116, 32, 111, 102, 32, 114, 97, 110, 103, 101]⟩] 65, .cells #[.string ⟨#[105, 110, 118, 97, 108, 105, 100, 32, 115, 121, 110, 116, 97, 120]⟩] 65]
def setRow (cs : Array Value) : Obj → Obj
  | .cells _ t frozen => .cells cs t frozen
  | o => o
def tabs (low : Nat) (h : Array Obj) : Array Obj :=
  (((((h.modify 4 (setRow #[.int .u8 0, .int .u8 1, .int .u8 28, .int .u8 2, .int .u8 29, .int .u8 14, .int .u8 24, .int .u8 3, .int .u8 30, .int .u8 22, .int .u8 20, .int .u8 15, .int .u8 25, .int .u8 17, .int .u8 4, .int .u8 8, .int .u8 31, .int .u8 27, .int .u8 13, .int .u8 23, .int .u8 21, .int .u8 19, .int .u8 16, .int .u8 7, .int .u8 26, .int .u8 12, .int .u8 18, .int .u8 6, .int .u8 11, .int .u8 5, .int .u8 10, .int .u8 9])).modify 5 (setRow #[.int .u8 0, .int .u8 1, .int .u8 56, .int .u8 2, .int .u8 57, .int .u8 49, .int .u8 28, .int .u8 3, .int .u8 61, .int .u8 58, .int .u8 42, .int .u8 50, .int .u8 38, .int .u8 29, .int .u8 17, .int .u8 4, .int .u8 62, .int .u8 47, .int .u8 59, .int .u8 36, .int .u8 45, .int .u8 43, .int .u8 51, .int .u8 22, .int .u8 53, .int .u8 39, .int .u8 33, .int .u8 30, .int .u8 24, .int .u8 18, .int .u8 12, .int .u8 5, .int .u8 63, .int .u8 55, .int .u8 48, .int .u8 27, .int .u8 60, .int .u8 41, .int .u8 37, .int .u8 16, .int .u8 46, .int .u8 35, .int .u8 44, .int .u8 21, .int .u8 52, .int .u8 32, .int .u8 23, .int .u8 11, .int .u8 54, .int .u8 26, .int .u8 40, .int .u8 15, .int .u8 34, .int .u8 20, .int .u8 31, .int .u8 10, .int .u8 25, .int .u8 14, .int .u8 19, .int .u8 9, .int .u8 13, .int .u8 8, .int .u8 7, .int .u8 6])).modify 3 (setRow #[.int .u64 1, .int .u64 10, .int .u64 100, .int .u64 1000, .int .u64 10000, .int .u64 100000, .int .u64 1000000, .int .u64 10000000, .int .u64 100000000, .int .u64 1000000000, .int .u64 10000000000, .int .u64 100000000000, .int .u64 1000000000000, .int .u64 10000000000000, .int .u64 100000000000000, .int .u64 1000000000000000, .int .u64 10000000000000000, .int .u64 100000000000000000, .int .u64 1000000000000000000, .int .u64 10000000000000000000])).modify 2 (setRow #[.iface 63 (.pointer (some ⟨low + 0, 0, none⟩))])).modify 1 (setRow #[.iface 63 (.pointer (some ⟨low + 1, 0, none⟩))]))
theorem laid_met (os : Os) : laidMet Tryd.prog Rows.fnExactItvReadRow.laid (({ World.holding Tryd.prog os ⟨extra, #[], []⟩ with heap := tabs (World.holding Tryd.prog default ⟨#[], #[], []⟩).heap.size (World.holding Tryd.prog os ⟨extra, #[], []⟩).heap }).forCall (fun _ _ => 0) ⟨#[], #[.string .empty], []⟩).memory :=
  laidMet_of_run' 8 (by kernel_rfl) (by kernel_rfl)
theorem reads (os : Os) {H : Type} (enc : TypeId × Value → H) : ∃ places, DataW.whole enc Tryd.prog (({ World.holding Tryd.prog os ⟨extra, #[], []⟩ with heap := tabs (World.holding Tryd.prog default ⟨#[], #[], []⟩).heap.size (World.holding Tryd.prog os ⟨extra, #[], []⟩).heap }).forCall (fun _ _ => 0) ⟨#[], #[.string .empty], []⟩).memory Tryd.f3.params.toList Rows.fnExactItvReadSpec.vars false (#[.string .empty] : Array Value).toList 8 = some ([.lit (.string [])], [], places) :=
  ⟨[], by kernel_rfl⟩

set_option maxRecDepth 100000 in
theorem lifted (os : Os) (started : os.Started) (H : Type) (enc : TypeId × Value → H) (F : Stop.Interp) :
    ReturnsInHanded {} Tryd.checked os 3 .any ((OpenSpec.ofChange Rows.fnExactItvReadSpec).preRow enc Tryd.prog Tryd.f3 Rows.fnExactItvReadRow.domain false Rows.fnExactItvReadRow.laid) (((OpenSpec.ofChange Rows.fnExactItvReadSpec).at F).post enc Tryd.prog Tryd.f3 false true false false) := by
  obtain ⟨places, hx⟩ := reads os enc
  refine returnsInHanded_of_row (C := Tryd.checked) (s := OpenSpec.ofChange Rows.fnExactItvReadSpec) own started (by kernel_rfl) Tryd.func3
    (witness_row_at (enc := enc) (C := Tryd.checked) false ({ World.holding Tryd.prog os ⟨extra, #[], []⟩ with heap := tabs (World.holding Tryd.prog default ⟨#[], #[], []⟩).heap.size (World.holding Tryd.prog os ⟨extra, #[], []⟩).heap }) #[.string .empty] rfl (by kernel_rfl) (by kernel_rfl) (by kernel_rfl)
      (OpenSpec.preRow_of_cond 8 hx (by kernel_rfl) (fun k hk => by cases hk) (by kernel_rfl) (laid_met os))) ?_
  intro W base args ds gs before hval hW _ _ _ hL hSh _
  exact contract H enc W base args ds gs before hval hW hL hSh

theorem said : Rows.FnExactItvReadSaid :=
  OpenClaim.holds_of_cond 3 Tryd.f3 rfl rfl rfl rfl rfl rfl rfl ⟨rfl, rfl, rfl, rfl, rfl⟩ rfl rfl rfl rfl rfl (by kernel_rfl) Tryd.func3 (by kernel_rfl)
    (of_decide_eq_true (by kernel_rfl)) (by unfold Func.isWrapper; first | (rw [if_pos (by decide +kernel)]; kernel_rfl) | (rw [if_neg (by decide +kernel)]; exact ⟨rfl, rfl⟩))
    (fun os started H enc _ F => by rw [OpenClaim.pre_eq_preRow]; exact lifted os started H enc F)

theorem plain (f : FuncId) (fn : Func) (hf : Tryd.pinned.checked.prog.funcNamed "loop.example/outwork/laws.FnExactItvRead" = some f) (hfn : Tryd.pinned.checked.prog.funcs[f]? = some fn) :
    true = Tryd.pinned.checked.prog.looks [] ∧ ∀ (j : Nat) t, fn.params[j]? = some t → Tryd.pinned.checked.prog.wantsStandIn t = false := by
  obtain rfl : f = 3 := Option.some.inj ((show Tryd.prog.funcNamed "loop.example/outwork/laws.FnExactItvRead" = some 3 by kernel_rfl).symm.trans hf) |>.symm
  obtain rfl : fn = Tryd.f3 := (Option.some.inj (Tryd.func3.symm.trans hfn)).symm
  refine ⟨by kernel_rfl, fun j t ht => ?_⟩
  rw [Tryd.params3] at ht
  obtain rfl : t = 9 := by simpa using Array.mem_of_getElem? ht
  · exact (show Tryd.prog.wantsStandIn 9 = false by kernel_rfl)

theorem proved : Rows.FnExactItvReadCardSaid :=
  Claim7.holds_tied_plain_at .later [] _ _ _ _ said (fun _ h => by cases h) (by kernel_rfl) (fun _ h => by cases h) fnExactItvRead_row_tie rfl ⟨rfl, rfl⟩ (by kernel_rfl) rfl plain (by kernel_rfl)
#print axioms proved
end Go.Proofs.YtpgdefaiojjjfacDoor.fnExactItvRead
