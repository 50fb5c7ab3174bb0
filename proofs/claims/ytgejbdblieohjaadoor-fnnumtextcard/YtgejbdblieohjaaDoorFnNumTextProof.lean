/- Whatever bytes are handed in, the law FnNumText returns true: of the drawn int NumText, and of the drawn text NumRead, answer as the model's; what NumRead reads has that text; a number's text is read as it. Condition: the three tables and the two errors of the library that the row lists hold what their initialisers lay; the card ties that to the program's text. -/
import Derived.Test.YtgejbdblieohjaaDoorNums
import Derived.Test.YtgejbdblieohjaaDoorDraws
import Derived.Test.YtgejbdblieohjaaDoorText
import Derived.Test.YtgejbdblieohjaaDoorRead
import Derived.Test.YtgejbdblieohjaaDoorDrawStr
import Derived.Test.YtgejbdblieohjaaDoorCards
import Derived.Test.YtgejbdblieohjaaDoorTie
import Derived.WalkKit
import Derived.ProofKit
import Derived.OpenShut
import Derived.ShutString
import Derived.ChangeOld
import Derived.Below
import Derived.Deep.DeepHandedRow
import Derived.Lib.LaidTab
import Derived.LaidSub
import Derived.Stop.LaidErr
namespace Go.Proofs.YtgejbdblieohjaaDoor.fnNumText
open Go.ChangeShapes Go.WideShapes Go.ChangeAt Go.RowKit
open Go.ChangeMaps (open_string shut_string)
set_option linter.unusedVariables false

theorem own : ownKnob Tryd.prog.godebug = none := by kernel_rfl
theorem laidOut : laidOutB Tryd.prog = true := by kernel_rfl
theorem gTab : Tryd.prog.globalNamed "internal/strconv.uint64pow10" = some 2 := by kernel_rfl
theorem gTabType : (Tryd.prog.globals[2]?).map (·.type) = some 72 := by kernel_rfl
theorem cellsTab : Tryd.prog.cellsOf 72 = 20 := by kernel_rfl
theorem cellsOne : Tryd.prog.cellsOf 52 = 1 := by kernel_rfl
theorem table {W : World} (h : laidMetH Tryd.prog Rows.fnNumTextRow.laid W) : Lib.TabIs Tryd.prog W "internal/strconv.uint64pow10" .u64 Lib.pow10Tab := by
  have h1 := h.filter (fun x => x.1 == "internal/strconv.uint64pow10")
  have e : Rows.fnNumTextRow.laid.filter (fun x => x.1 == "internal/strconv.uint64pow10") = [("internal/strconv.uint64pow10", Lib.tabData .u64 Lib.pow10Tab)] := by kernel_rfl
  rw [e] at h1
  exact Lib.tabIs_of_head (rest := []) gTab gTabType Tryd.underlying72 Tryd.underlying52 cellsOne cellsTab h1
theorem cellsErr : Tryd.prog.cellsOf 70 = 1 := by kernel_rfl
theorem cellsStr : Tryd.prog.cellsOf 9 = 1 := by kernel_rfl
theorem star : "*" ++ "errors.errorString" = "*errors.errorString" := by decide
theorem rowErr (u : TypeId) (h : Tryd.prog.typeName? 3 u = some "*errors.errorString") : u = 68 :=
  typeName_ptr_named (nm := "errors.errorString") (by rw [star]; kernel_rfl) (by kernel_rfl) (by decide) u (by rw [star]; exact h)
theorem sent_q {W : World} (h : laidMetH Tryd.prog Rows.fnNumTextRow.laid W) : ∃ a : Addr, W.var? Tryd.prog "strconv.ErrRange" = some #[.iface 68 (.pointer (some a))] := by
  have h1 := h.filter (fun x => x.1 == "strconv.ErrRange")
  have e : Rows.fnNumTextRow.laid.filter (fun x => x.1 == "strconv.ErrRange") = [("strconv.ErrRange", Rows.laid_strconv_ErrRange)] := by kernel_rfl
  rw [e] at h1
  obtain ⟨a, s, hv, -, -, -⟩ := laid_sentinel (g := 1) (r := []) h1 (by kernel_rfl) (by kernel_rfl) Tryd.underlying38 rowErr Tryd.underlying68 Tryd.underlying70 rfl rfl Tryd.underlying9 cellsErr cellsStr
  exact ⟨a, hv⟩
theorem sent_p {W : World} (h : laidMetH Tryd.prog Rows.fnNumTextRow.laid W) : ∃ a : Addr, W.var? Tryd.prog "strconv.ErrSyntax" = some #[.iface 68 (.pointer (some a))] := by
  have h1 := h.filter (fun x => x.1 == "strconv.ErrSyntax")
  have e : Rows.fnNumTextRow.laid.filter (fun x => x.1 == "strconv.ErrSyntax") = [("strconv.ErrSyntax", Rows.laid_strconv_ErrSyntax)] := by kernel_rfl
  rw [e] at h1
  obtain ⟨a, s, hv, -, -, -⟩ := laid_sentinel (g := 0) (r := []) h1 (by kernel_rfl) (by kernel_rfl) Tryd.underlying38 rowErr Tryd.underlying68 Tryd.underlying70 rfl rfl Tryd.underlying9 cellsErr cellsStr
  exact ⟨a, hv⟩

theorem owOk (w : World) : Calls Tryd.prog 11 #[] w fun e w' => e = .returned (.bool true) ∧ w' = w := by
  go_enter Tryd.func11, Tryd.ntmps11
  go_wp2_with (go_at_call 19; refine (okI _ _).mono ?_; rintro e w' ⟨rfl, rfl⟩)
  go_ret
  exact ⟨rfl, rfl⟩
theorem isRead_text {n : Int} (h : okB n = true) : IsRead (⟨(textOf n).toArray⟩ : ByteArray).data.toList n true :=
  .inl ⟨rfl, h, by rw [textOf_ok h]⟩

theorem walk (a0 : Option Addr) (len0 cap0 : Nat) (z0 : Nat → Int) (a1 : Option Addr) (len1 cap1 : Nat) (z1 : Nat → Int) (w : World) (hz0 : ∀ i, 0 ≤ z0 i ∧ z0 i ≤ 255) (r0 : Bytes w a0 len0 cap0 z0) (hz1 : ∀ i, 0 ≤ z1 i ∧ z1 i ≤ 255) (r1 : Bytes w a1 len1 cap1 z1) (htab : Lib.TabIs Tryd.prog w "internal/strconv.uint64pow10" .u64 Lib.pow10Tab) (qe : Addr) (hq : w.var? Tryd.prog "strconv.ErrRange" = some #[.iface 68 (.pointer (some qe))]) (pe : Addr) (hp : w.var? Tryd.prog "strconv.ErrSyntax" = some #[.iface 68 (.pointer (some pe))]) :
    Calls Tryd.prog 3 #[.slice a0 len0 cap0, .slice a1 len1 cap1] w fun e w' => e = .returned (.bool true) ∧ Below w.heap.size w w' := by
  by_cases hl : len0 ≤ 1048576
  case neg =>
    have hi : (1048576 : Int) < (len0 : Int) := by omega
    go_enter Tryd.func3, Tryd.ntmps3
    go_wp2_with fail
    go_ret
    exact ⟨rfl, Below.refl _ _⟩
  have hi : ¬ (1048576 : Int) < (len0 : Int) := by omega
  by_cases hl1 : len1 ≤ 1048576
  case neg =>
    have hi1 : (1048576 : Int) < (len1 : Int) := by omega
    go_enter Tryd.func3, Tryd.ntmps3
    go_wp2_with fail
    go_ret
    exact ⟨rfl, Below.refl _ _⟩
  have hi1 : ¬ (1048576 : Int) < (len1 : Int) := by omega
  go_enter Tryd.func3, Tryd.ntmps3
  go_wp2_with fail
  refine (drawText a0 len0 cap0 z0 _ hz0 hl r0).mono ?_
  rintro e w1 ⟨n, -, -, rfl, b1⟩
  go_wp2_with fail
  refine (drawRead a1 len1 cap1 z1 _ hz1 hl1 (r1.kept b1)).mono ?_
  rintro e w2 ⟨s, rfl, hs, g2⟩
  have b2 := b1.trans (g2.mono b1.size)
  go_wp2_with fail
  refine (readI s _ (by omega) (tab_below htab b2) _ _ _ _ (var_below hp b2) (var_below hq b2)).mono ?_
  rintro e w3 ⟨m, c, rfl, R3, g3⟩
  have b3 := b2.trans (g3.mono b2.size)
  have H3 : Hid (IsRead s.data.toList m c) := R3
  clear R3
  go_wp2_with fail
  refine (readS s _ (by omega)).mono ?_
  rintro e w4 ⟨m', c', rfl, R4, g4⟩
  have b4 := b3.trans (g4.mono b3.size)
  obtain ⟨rfl, rfl⟩ := isRead_one H3.out R4
  clear R4
  go_wp2_with fail
  refine (textI n _ (tab_below htab b4)).mono ?_
  rintro e w5 ⟨rfl, g5⟩
  have b5 := b4.trans (g5.mono b4.size)
  go_wp2_with fail
  refine (textS n _).mono ?_
  rintro e w6 ⟨rfl, g6⟩
  have b6 := b5.trans (g6.mono b5.size)
  cases c with
  | true =>
    have hmt : (textOf m == s.toList) = true := by
      rcases H3.out with ⟨_, k1, k2⟩ | ⟨k, _⟩
      · rw [ByteArray.toList_eq, ← k2, textOf_ok k1]; simp
      · cases k
    go_wp2_with fail
    refine (textI m _ (tab_below htab b6)).mono ?_
    rintro e w7 ⟨rfl, g7⟩
    have b7 := b6.trans (g7.mono b6.size)
    rcases Bool.eq_false_or_eq_true (okB n) with h | h
    · go_wp2_with (go_at_call 10; refine (okS _ _).mono ?_; rintro e w' ⟨rfl, rfl⟩)
      refine (textI n _ (tab_below htab b7)).mono ?_
      rintro e w8 ⟨rfl, g8⟩
      have b8 := b7.trans (g8.mono b7.size)
      have hts := text_size n
      have HR : Hid (IsRead (⟨(textOf n).toArray⟩ : ByteArray).data.toList n true) := isRead_text h
      go_wp2_with fail
      refine (readI _ _ (by omega) (tab_below htab b8) _ _ _ _ (var_below hp b8) (var_below hq b8)).mono ?_
      rintro e w9 ⟨x, d, rfl, R9, g9⟩
      have b9 := b8.trans (g9.mono b8.size)
      obtain ⟨rfl, rfl⟩ := isRead_one R9 HR.out
      clear R9
      go_wp2_with fail
      go_ret
      exact ⟨rfl, b9⟩
    · have ht := textOf_no h
      go_wp2_with (go_at_call 10; refine (okS _ _).mono ?_; rintro e w' ⟨rfl, rfl⟩)
      refine (textI n _ (tab_below htab b7)).mono ?_
      rintro e w8 ⟨rfl, g8⟩
      have b8 := b7.trans (g8.mono b7.size)
      go_wp2_with (go_at_call 11; refine (owOk _).mono ?_; rintro e w' ⟨rfl, rfl⟩)
      go_ret
      exact ⟨rfl, b8⟩
  | false =>
    rcases Bool.eq_false_or_eq_true (okB n) with h | h
    · go_wp2_with (go_at_call 10; refine (okS _ _).mono ?_; rintro e w' ⟨rfl, rfl⟩)
      refine (textI n _ (tab_below htab b6)).mono ?_
      rintro e w8 ⟨rfl, g8⟩
      have b8 := b6.trans (g8.mono b6.size)
      have hts := text_size n
      have HR : Hid (IsRead (⟨(textOf n).toArray⟩ : ByteArray).data.toList n true) := isRead_text h
      go_wp2_with fail
      refine (readI _ _ (by omega) (tab_below htab b8) _ _ _ _ (var_below hp b8) (var_below hq b8)).mono ?_
      rintro e w9 ⟨x, d, rfl, R9, g9⟩
      have b9 := b8.trans (g9.mono b8.size)
      obtain ⟨rfl, rfl⟩ := isRead_one R9 HR.out
      clear R9
      go_wp2_with fail
      go_ret
      exact ⟨rfl, b9⟩
    · have ht := textOf_no h
      go_wp2_with (go_at_call 10; refine (okS _ _).mono ?_; rintro e w' ⟨rfl, rfl⟩)
      refine (textI n _ (tab_below htab b6)).mono ?_
      rintro e w8 ⟨rfl, g8⟩
      have b8 := b6.trans (g8.mono b6.size)
      go_wp2_with (go_at_call 11; refine (owOk _).mono ?_; rintro e w' ⟨rfl, rfl⟩)
      go_ret
      exact ⟨rfl, b8⟩

theorem contract (H : Type) (enc : TypeId × Value → H) (W : World) (base : Nat) (args : Array Value) (ds gs : List (DataW H)) (before : List MemPlace)
    (hval : ∀ (j : Nat) t v, Tryd.f3.params[j]? = some t → args[j]? = some v → Value.okWide Tryd.prog W .any base t v)
    (hW : DataW.Whole enc Tryd.prog Tryd.f3.params.toList Rows.fnNumTextSpec.vars false W args.toList ds gs before) (hL : laidMetH Tryd.prog Rows.fnNumTextRow.laid W) :
    Calls Tryd.prog 3 args W fun e W' => ∃ v, e = .returned v ∧ Rows.fnNumTextSpec.post enc Tryd.prog Tryd.f3 false true false false W args v W' := by
  have hW' := hW
  obtain ⟨p, q, hA0, hV, rfl, hfz, hnd⟩ := hW
  have hA : DataW.TrodAll enc Tryd.prog W 0 (fun _ => true) true Tryd.f3.params.toList args.toList ds p := hA0
  rw [Tryd.params3] at hA hval
  obtain ⟨v0, vs0, d0, ds0, p0, q0, hargs, rfl, rfl, h0, r0'⟩ := trodAll_cons hA
  obtain ⟨v1, vs1, d1, ds1, p1, q1, rfl, rfl, rfl, h1, r1'⟩ := trodAll_cons r0'
  obtain ⟨rfl, rfl, rfl⟩ := trodAll_nil r1'
  obtain rfl : args = #[v0, v1] := by cases args; simp_all
  obtain ⟨rfl, rfl⟩ := trodVars_none hV
  obtain ⟨a0, len0, cap0, rfl⟩ := okWide_slice Tryd.underlying22 (hval 0 22 v0 rfl rfl)
  have k0 := h0
  have lt0 : ∀ x ∈ p0, x.block < W.heap.size := by obtain ⟨m, hm⟩ := k0; exact DataW.trod_lt m _ _ _ hm
  obtain ⟨z0, hz0, r0⟩ : ∃ z : Nat → Int, (∀ i, 0 ≤ z i ∧ z i ≤ 255) ∧ Bytes W a0 len0 cap0 z := by
    obtain ⟨fuel, hf⟩ := h0
    rcases open_ints Tryd.underlying22 Tryd.underlying5 (by kernel_rfl) hf with ⟨hcs, _⟩ | ⟨x, l, c, zs, hcs, _, hl, hm, hz, _, hcell, hwz⟩
    · simp [Value.cells] at hcs
      obtain ⟨rfl, rfl, rfl⟩ := hcs
      exact ⟨fun _ => 0, fun _ => by simp, .inl rfl⟩
    · simp [Value.cells] at hcs
      obtain ⟨rfl, rfl, rfl⟩ := hcs
      exact bytes_of hl (by simpa using hz) hcell hwz
  obtain ⟨a1, len1, cap1, rfl⟩ := okWide_slice Tryd.underlying22 (hval 1 22 v1 rfl rfl)
  have k1 := h1
  have lt1 : ∀ x ∈ p1, x.block < W.heap.size := by obtain ⟨m, hm⟩ := k1; exact DataW.trod_lt m _ _ _ hm
  obtain ⟨z1, hz1, r1⟩ : ∃ z : Nat → Int, (∀ i, 0 ≤ z i ∧ z i ≤ 255) ∧ Bytes W a1 len1 cap1 z := by
    obtain ⟨fuel, hf⟩ := h1
    rcases open_ints Tryd.underlying22 Tryd.underlying5 (by kernel_rfl) hf with ⟨hcs, _⟩ | ⟨x, l, c, zs, hcs, _, hl, hm, hz, _, hcell, hwz⟩
    · simp [Value.cells] at hcs
      obtain ⟨rfl, rfl, rfl⟩ := hcs
      exact ⟨fun _ => 0, fun _ => by simp, .inl rfl⟩
    · simp [Value.cells] at hcs
      obtain ⟨rfl, rfl, rfl⟩ := hcs
      exact bytes_of hl (by simpa using hz) hcell hwz
  clear hA0
  obtain ⟨qe, hq⟩ := sent_q hL
  obtain ⟨pe, hp⟩ := sent_p hL
  refine (walk a0 len0 cap0 z0 a1 len1 cap1 z1 W hz0 r0 hz1 r1 (table hL) qe hq pe hp).mono fun e W' ⟨he, bel⟩ => ?_
  subst he
  exact ⟨_, rfl, _, _, _, [], _, [], hW', trodAll_mk1 (shut_bool Tryd.underlying4 _), (trodAll_cons_mk (Below.trod laidOut (by kernel_rfl) (of_decide_eq_true (by kernel_rfl)) k0 bel lt0) (trodAll_cons_mk (Below.trod laidOut (by kernel_rfl) (of_decide_eq_true (by kernel_rfl)) k1 bel lt1) trodAll_mk0)), rfl, bel.frame _, fun h => by cases h⟩

def extra : Array Obj := #[.cells #[.string ⟨#[118, 97, 108, 117, 101, 32, 111, 117, 116, 32, 111, 102, 32, 114, 97, 110, 103, 101]⟩] 70, .cells #[.string ⟨#[105, 110, 118, 97, 108, 105, 100, 32, 115, 121, 110, 116, 97, 120]⟩] 70]
def setRow (cs : Array Value) : Obj → Obj
  | .cells _ t frozen => .cells cs t frozen
  | o => o
def tabs (low : Nat) (h : Array Obj) : Array Obj :=
  (((((h.modify 3 (setRow #[.int .u8 0, .int .u8 1, .int .u8 28, .int .u8 2, .int .u8 29, .int .u8 14, .int .u8 24, .int .u8 3, .int .u8 30, .int .u8 22, .int .u8 20, .int .u8 15, .int .u8 25, .int .u8 17, .int .u8 4, .int .u8 8, .int .u8 31, .int .u8 27, .int .u8 13, .int .u8 23, .int .u8 21, .int .u8 19, .int .u8 16, .int .u8 7, .int .u8 26, .int .u8 12, .int .u8 18, .int .u8 6, .int .u8 11, .int .u8 5, .int .u8 10, .int .u8 9])).modify 4 (setRow #[.int .u8 0, .int .u8 1, .int .u8 56, .int .u8 2, .int .u8 57, .int .u8 49, .int .u8 28, .int .u8 3, .int .u8 61, .int .u8 58, .int .u8 42, .int .u8 50, .int .u8 38, .int .u8 29, .int .u8 17, .int .u8 4, .int .u8 62, .int .u8 47, .int .u8 59, .int .u8 36, .int .u8 45, .int .u8 43, .int .u8 51, .int .u8 22, .int .u8 53, .int .u8 39, .int .u8 33, .int .u8 30, .int .u8 24, .int .u8 18, .int .u8 12, .int .u8 5, .int .u8 63, .int .u8 55, .int .u8 48, .int .u8 27, .int .u8 60, .int .u8 41, .int .u8 37, .int .u8 16, .int .u8 46, .int .u8 35, .int .u8 44, .int .u8 21, .int .u8 52, .int .u8 32, .int .u8 23, .int .u8 11, .int .u8 54, .int .u8 26, .int .u8 40, .int .u8 15, .int .u8 34, .int .u8 20, .int .u8 31, .int .u8 10, .int .u8 25, .int .u8 14, .int .u8 19, .int .u8 9, .int .u8 13, .int .u8 8, .int .u8 7, .int .u8 6])).modify 2 (setRow #[.int .u64 1, .int .u64 10, .int .u64 100, .int .u64 1000, .int .u64 10000, .int .u64 100000, .int .u64 1000000, .int .u64 10000000, .int .u64 100000000, .int .u64 1000000000, .int .u64 10000000000, .int .u64 100000000000, .int .u64 1000000000000, .int .u64 10000000000000, .int .u64 100000000000000, .int .u64 1000000000000000, .int .u64 10000000000000000, .int .u64 100000000000000000, .int .u64 1000000000000000000, .int .u64 10000000000000000000])).modify 1 (setRow #[.iface 68 (.pointer (some ⟨low + 0, 0, none⟩))])).modify 0 (setRow #[.iface 68 (.pointer (some ⟨low + 1, 0, none⟩))]))
theorem laid_met (os : Os) : laidMet Tryd.prog Rows.fnNumTextRow.laid (({ World.holding Tryd.prog os ⟨extra, #[], []⟩ with heap := tabs (World.holding Tryd.prog default ⟨#[], #[], []⟩).heap.size (World.holding Tryd.prog os ⟨extra, #[], []⟩).heap }).forCall (fun _ _ => 0) ⟨#[], #[.slice none 0 0, .slice none 0 0], []⟩).memory :=
  laidMet_of_run' 8 (by kernel_rfl) (by kernel_rfl)
theorem reads (os : Os) {H : Type} (enc : TypeId × Value → H) : ∃ places, DataW.whole enc Tryd.prog (({ World.holding Tryd.prog os ⟨extra, #[], []⟩ with heap := tabs (World.holding Tryd.prog default ⟨#[], #[], []⟩).heap.size (World.holding Tryd.prog os ⟨extra, #[], []⟩).heap }).forCall (fun _ _ => 0) ⟨#[], #[.slice none 0 0, .slice none 0 0], []⟩).memory Tryd.f3.params.toList Rows.fnNumTextSpec.vars false (#[.slice none 0 0, .slice none 0 0] : Array Value).toList 8 = some ([.nil, .nil], [], places) :=
  ⟨[], by kernel_rfl⟩

set_option maxRecDepth 100000 in
theorem lifted (os : Os) (started : os.Started) (H : Type) (enc : TypeId × Value → H) (F : Stop.Interp) :
    ReturnsInHanded {} Tryd.checked os 3 .any ((OpenSpec.ofChange Rows.fnNumTextSpec).preRow enc Tryd.prog Tryd.f3 Rows.fnNumTextRow.domain false Rows.fnNumTextRow.laid) (((OpenSpec.ofChange Rows.fnNumTextSpec).at F).post enc Tryd.prog Tryd.f3 false true false false) := by
  obtain ⟨places, hx⟩ := reads os enc
  refine returnsInHanded_of_row (C := Tryd.checked) (s := OpenSpec.ofChange Rows.fnNumTextSpec) own started (by kernel_rfl) Tryd.func3
    (witness_row_at (enc := enc) (C := Tryd.checked) false ({ World.holding Tryd.prog os ⟨extra, #[], []⟩ with heap := tabs (World.holding Tryd.prog default ⟨#[], #[], []⟩).heap.size (World.holding Tryd.prog os ⟨extra, #[], []⟩).heap }) #[.slice none 0 0, .slice none 0 0] rfl (by kernel_rfl) (by kernel_rfl) (by kernel_rfl)
      (OpenSpec.preRow_of_cond 8 hx (by kernel_rfl) (fun k hk => by cases hk) (by kernel_rfl) (laid_met os))) ?_
  intro W base args ds gs before hval hW _ _ _ hL _ _
  exact contract H enc W base args ds gs before hval hW hL

theorem said : Rows.FnNumTextSaid :=
  OpenClaim.holds_of_cond 3 Tryd.f3 rfl rfl rfl rfl rfl rfl rfl ⟨rfl, rfl, rfl, rfl, rfl⟩ rfl rfl rfl rfl rfl (by kernel_rfl) Tryd.func3 (by kernel_rfl)
    (of_decide_eq_true (by kernel_rfl)) (by unfold Func.isWrapper; first | (rw [if_pos (by decide +kernel)]; kernel_rfl) | (rw [if_neg (by decide +kernel)]; exact ⟨rfl, rfl⟩))
    (fun os started H enc _ F => by rw [OpenClaim.pre_eq_preRow]; exact lifted os started H enc F)

theorem plain (f : FuncId) (fn : Func) (hf : Tryd.pinned.checked.prog.funcNamed "loop.example/outwork/laws.FnNumText" = some f) (hfn : Tryd.pinned.checked.prog.funcs[f]? = some fn) :
    true = Tryd.pinned.checked.prog.looks [] ∧ ∀ (j : Nat) t, fn.params[j]? = some t → Tryd.pinned.checked.prog.wantsStandIn t = false := by
  obtain rfl : f = 3 := Option.some.inj ((show Tryd.prog.funcNamed "loop.example/outwork/laws.FnNumText" = some 3 by kernel_rfl).symm.trans hf) |>.symm
  obtain rfl : fn = Tryd.f3 := (Option.some.inj (Tryd.func3.symm.trans hfn)).symm
  refine ⟨by kernel_rfl, fun j t ht => ?_⟩
  rw [Tryd.params3] at ht
  obtain rfl : t = 22 := by simpa using Array.mem_of_getElem? ht
  · exact (show Tryd.prog.wantsStandIn 22 = false by kernel_rfl)

theorem proved : Rows.FnNumTextCardSaid :=
  Claim7.holds_tied_plain_at .later [] _ _ _ _ said (fun _ h => by cases h) (by kernel_rfl) (fun _ h => by cases h) fnNumText_row_tie rfl ⟨rfl, rfl⟩ (by kernel_rfl) rfl plain (by kernel_rfl)
#print axioms proved
end Go.Proofs.YtgejbdblieohjaaDoor.fnNumText
