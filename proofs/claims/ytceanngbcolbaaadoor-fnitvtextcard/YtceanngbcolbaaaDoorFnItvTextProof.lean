/- Whatever bytes are handed in, the law FnItvText returns true: of the drawn bounds ItvText, and of the drawn text ItvRead, answer as the model's; what ItvRead reads has that text; bounds' text is read as them. Conditions: the tables and errors of the library that the row lists hold what their initialisers lay; the card ties that to the program's text; the library's variable internal/bytealg.MaxLen holds some int, as the row's own first world has it. Of more than 1048576 bytes the law itself answers true. -/
import Derived.Test.YtceanngbcolbaaaDoorNums
import Derived.Test.YtceanngbcolbaaaDoorHeld
import Derived.Test.YtceanngbcolbaaaDoorItv
import Derived.Test.YtceanngbcolbaaaDoorItvI
import Derived.Test.YtceanngbcolbaaaDoorText
import Derived.Test.YtceanngbcolbaaaDoorRead
import Derived.Test.YtceanngbcolbaaaDoorPlainRead
import Derived.Test.YtceanngbcolbaaaDoorItvReadI
import Derived.Test.YtceanngbcolbaaaDoorItvRead
import Derived.Test.YtceanngbcolbaaaDoorItvText
import Derived.Test.YtceanngbcolbaaaDoorDrawText
import Derived.Test.YtceanngbcolbaaaDoorRegInv
import Derived.Test.YtceanngbcolbaaaDoorCards
import Derived.Test.YtceanngbcolbaaaDoorTie
import Derived.Deep.RegionHeld3
import Derived.Deep.DeepCutAuto
import Derived.WalkKit
import Derived.ProofKit
import Derived.OpenShut
import Derived.ShutString
import Derived.ChangeOld
import Derived.Below
import Derived.Deep.DeepHandedRow
import Derived.Lib.LaidTab
import Derived.LaidSub
import Derived.Stop.LaidErr
namespace Go.Proofs.YtceanngbcolbaaaDoor.fnItvText
open Go.ChangeShapes Go.WideShapes Go.ChangeAt Go.RowKit
open Go.ChangeMaps (open_string shut_string)
set_option linter.unusedVariables false

theorem own : ownKnob Tryd.prog.godebug = none := by kernel_rfl
theorem laidOut : laidOutB Tryd.prog = true := by kernel_rfl
theorem gTab : Tryd.prog.globalNamed "internal/strconv.uint64pow10" = some 3 := by kernel_rfl
theorem gTabType : (Tryd.prog.globals[3]?).map (·.type) = some 86 := by kernel_rfl
theorem cellsTab : Tryd.prog.cellsOf 86 = 20 := by kernel_rfl
theorem cellsOne : Tryd.prog.cellsOf 67 = 1 := by kernel_rfl
theorem table {W : World} (h : laidMetH Tryd.prog Rows.fnItvTextRow.laid W) : Lib.TabIs Tryd.prog W "internal/strconv.uint64pow10" .u64 Lib.pow10Tab := by
  have h1 := h.filter (fun x => x.1 == "internal/strconv.uint64pow10")
  have e : Rows.fnItvTextRow.laid.filter (fun x => x.1 == "internal/strconv.uint64pow10") = [("internal/strconv.uint64pow10", Lib.tabData .u64 Lib.pow10Tab)] := by kernel_rfl
  rw [e] at h1
  exact Lib.tabIs_of_head (rest := []) gTab gTabType Tryd.underlying86 Tryd.underlying67 cellsOne cellsTab h1
theorem cellsErr : Tryd.prog.cellsOf 84 = 1 := by kernel_rfl
theorem cellsStr : Tryd.prog.cellsOf 9 = 1 := by kernel_rfl
theorem star : "*" ++ "errors.errorString" = "*errors.errorString" := by decide
theorem rowErr (u : TypeId) (h : Tryd.prog.typeName? 3 u = some "*errors.errorString") : u = 82 :=
  typeName_ptr_named (nm := "errors.errorString") (by rw [star]; kernel_rfl) (by kernel_rfl) (by decide) u (by rw [star]; exact h)
theorem sent_q {W : World} (h : laidMetH Tryd.prog Rows.fnItvTextRow.laid W) : ∃ a : Addr, W.var? Tryd.prog "strconv.ErrRange" = some #[.iface 82 (.pointer (some a))] := by
  have h1 := h.filter (fun x => x.1 == "strconv.ErrRange")
  have e : Rows.fnItvTextRow.laid.filter (fun x => x.1 == "strconv.ErrRange") = [("strconv.ErrRange", Rows.laid_strconv_ErrRange)] := by kernel_rfl
  rw [e] at h1
  obtain ⟨a, s, hv, -, -, -⟩ := laid_sentinel (g := 2) (r := []) h1 (by kernel_rfl) (by kernel_rfl) Tryd.underlying50 rowErr Tryd.underlying82 Tryd.underlying84 rfl rfl Tryd.underlying9 cellsErr cellsStr
  exact ⟨a, hv⟩
theorem sent_p {W : World} (h : laidMetH Tryd.prog Rows.fnItvTextRow.laid W) : ∃ a : Addr, W.var? Tryd.prog "strconv.ErrSyntax" = some #[.iface 82 (.pointer (some a))] := by
  have h1 := h.filter (fun x => x.1 == "strconv.ErrSyntax")
  have e : Rows.fnItvTextRow.laid.filter (fun x => x.1 == "strconv.ErrSyntax") = [("strconv.ErrSyntax", Rows.laid_strconv_ErrSyntax)] := by kernel_rfl
  rw [e] at h1
  obtain ⟨a, s, hv, -, -, -⟩ := laid_sentinel (g := 1) (r := []) h1 (by kernel_rfl) (by kernel_rfl) Tryd.underlying50 rowErr Tryd.underlying82 Tryd.underlying84 rfl rfl Tryd.underlying9 cellsErr cellsStr
  exact ⟨a, hv⟩
theorem maxLen_in {W : World} (h : W.ShapedOpen Tryd.prog) : ∃ m, W.cell? ⟨0, 0, none⟩ = some (.int .i64 m) := Tryd.laysM145.s1_3 W h

theorem owOkT (w : World) : Calls Tryd.prog 11 #[] w fun e w' => e = .returned (.bool true) ∧ w' = w := by
  go_enter Tryd.func11, Tryd.ntmps11
  go_wp2_with (go_at_call 23; refine (okI _ _).mono ?_; rintro e w' ⟨rfl, rfl⟩)
  go_ret
  exact ⟨rfl, rfl⟩

set_option maxRecDepth 10000 in
set_option maxHeartbeats 40000000 in
theorem walk (a0 : Option Addr) (len0 cap0 : Nat) (z0 : Nat → Int) (a1 : Option Addr) (len1 cap1 : Nat) (z1 : Nat → Int) (w : World) (hz0 : ∀ i, 0 ≤ z0 i ∧ z0 i ≤ 255) (r0 : Bytes w a0 len0 cap0 z0) (hz1 : ∀ i, 0 ≤ z1 i ∧ z1 i ≤ 255) (r1 : Bytes w a1 len1 cap1 z1) (htab : Lib.TabIs Tryd.prog w "internal/strconv.uint64pow10" .u64 Lib.pow10Tab) (qe : Addr) (hq : w.var? Tryd.prog "strconv.ErrRange" = some #[.iface 82 (.pointer (some qe))]) (pe : Addr) (hp : w.var? Tryd.prog "strconv.ErrSyntax" = some #[.iface 82 (.pointer (some pe))]) (mx : Int) (hmx : w.cell? ⟨0, 0, none⟩ = some (.int .i64 mx)) :
    Calls Tryd.prog 3 #[.slice a0 len0 cap0, .slice a1 len1 cap1] w fun e w' => e = .returned (.bool true) ∧ Below w.heap.size w w' := by
  by_cases hl0 : len0 ≤ 1048576
  case neg =>
    have hi : (1048576 : Int) < (len0 : Int) := by omega
    go_enter Tryd.func3, Tryd.ntmps3
    go_wp2_with fail
    go_ret
    exact ⟨rfl, Below.refl _ _⟩
  have hi0 : ¬ (1048576 : Int) < (len0 : Int) := by omega
  by_cases hl1 : len1 ≤ 1048576
  case neg =>
    have hi : (1048576 : Int) < (len1 : Int) := by omega
    go_enter Tryd.func3, Tryd.ntmps3
    go_wp2_with fail
    go_ret
    exact ⟨rfl, Below.refl _ _⟩
  have hi1 : ¬ (1048576 : Int) < (len1 : Int) := by omega
  have hmlt : 0 < w.heap.size := World.block_lt_of_cell? w _ hmx
  go_enter Tryd.func3, Tryd.ntmps3
  go_wp2_with fail
  refine (drawItvText a0 len0 cap0 z0 _ hz0 hl0 r0).mono ?_
  rintro e w1 ⟨x, y, hx, hy, rfl, b1⟩
  have H1 : HeldL w [(w1.heap.size, [Value.int .i64 x, .int .i64 y])] (w1.alloc (.cells #[.int .i64 x, .int .i64 y] 24)) := HeldL.new ((HeldL.nil w).next b1)
  have r1' := r1.kept H1.below
  clear r0 r1
  go_wp2_with fail
  refine (drawItvRead a1 len1 cap1 z1 _ hz1 hl1 r1').mono ?_
  rintro e w2 ⟨s, rfl, hs, b2⟩
  have H2 := H1.next b2
  clear H1 b1 b2 r1'
  go_wp2_with fail
  refine (itvReadI s _ (by omega) (tab_below htab H2.below) _ _ _ _ (var_below hp H2.below) (var_below hq H2.below) mx ((H2.below.cell (p := ⟨0, 0, none⟩) hmlt).trans hmx)).mono ?_
  rintro e w3 ⟨p, q, c, rfl, k3, b3⟩
  have R3 : Hid (IsItv s.data.toList p q c) := k3
  have H3 := HeldL.new (x := .int .i64 p) (y := .int .i64 q) (t := 24) (H2.next b3)
  clear k3 H2 b3
  go_wp2_with fail
  refine (itvReadS s _ (by omega)).mono ?_
  rintro e w4 ⟨p', q', c', rfl, k4, b4⟩
  obtain ⟨rfl, rfl, rfl⟩ := isItv_one R3.out k4
  have H4 := HeldL.new (x := .int .i64 p) (y := .int .i64 q) (t := 24) (H3.next b4)
  clear k4 H3 b4
  obtain ⟨Lb, hLb⟩ : ∃ L, L = [(w4.heap.size, [Value.int .i64 p, .int .i64 q]), (w3.heap.size, [Value.int .i64 p, .int .i64 q]), (w1.heap.size, [Value.int .i64 x, .int .i64 y])] := ⟨_, rfl⟩
  rw [← hLb] at H4
  have mA : (w1.heap.size, [Value.int .i64 x, .int .i64 y]) ∈ Lb := by rw [hLb]; simp
  have mX : (w3.heap.size, [Value.int .i64 p, .int .i64 q]) ∈ Lb := by rw [hLb]; simp
  have mW : (w4.heap.size, [Value.int .i64 p, .int .i64 q]) ∈ Lb := by rw [hLb]; simp
  obtain ⟨T, hT0⟩ : ∃ T, (⟨(itvText x y).toArray⟩ : ByteArray) = T := ⟨_, rfl⟩
  have hT : Hid ((⟨(itvText x y).toArray⟩ : ByteArray) = T) := hT0
  have hS0 := H4.drew
  clear hLb hT0 H4 hz0 hz1 hl0 hl1 hi0 hi1
  go_wp2_with fail
  refine region_inv3 [(0, 35), (1, 36), (2, 37), (3, 38), (4, 39), (5, 40), (6, 41), (7, 42), (8, 43), (9, 44), (10, 45), (11, 46), (12, 47), (13, 48), (14, 49)]
    (fun j vx _ => match j with
      | 0 => Is (.agg #[.int .i64 x, .int .i64 y]) vx
      | 1 => Is (.string T) vx
      | 2 => Is (.agg #[.int .i64 x, .int .i64 y]) vx
      | 3 => Is (.string T) vx
      | 4 => Is (.bool false) vx
      | 5 => Is (.bool false) vx
      | 6 => Is (.agg #[.int .i64 p, .int .i64 q]) vx
      | 7 => Is (.agg #[.int .i64 p, .int .i64 q]) vx
      | 8 => Is (.bool false) vx
      | 9 => Is (.bool false) vx
      | 10 => Is (.bool false) vx
      | 11 => Is (.bool c) vx
      | 12 => Is (.bool c) vx
      | 13 => Is (.bool false) vx
      | 14 => Is (.bool false) vx
      | _ => True)
    (fun _ W => HeldL w Lb W) TT
    (by kernel_rfl) (by kernel_rfl) (by kernel_rfl) (by kernel_rfl) (by kernel_rfl) rfl hS0 (fun i j v W W' _ h _ => h) ?_ ?_
  · intro i L vals W hi' hφ hS hL hd
    have hi2 : i < 15 := hi'
    clear hi'
    rcases (show i = 0 ∨ i = 1 ∨ i = 2 ∨ i = 3 ∨ i = 4 ∨ i = 5 ∨ i = 6 ∨ i = 7 ∨ i = 8 ∨ i = 9 ∨ i = 10 ∨ i = 11 ∨ i = 12 ∨ i = 13 ∨ i = 14 by omega) with rfl | rfl | rfl | rfl | rfl | rfl | rfl | rfl | rfl | rfl | rfl | rfl | rfl | rfl | rfl
    · have c0 : W.cell? ⟨w1.heap.size, 0, none⟩ = some (.int .i64 x) := HeldL.cell hS mA (i := 0) rfl
      have c1 : W.cell? ⟨w1.heap.size, 1, none⟩ = some (.int .i64 y) := HeldL.cell hS mA (i := 1) rfl
      refine wpAt_of rfl rfl ?_
      simp only [frOf, Act.put]
      go_wp2_with fail
      first | exact ⟨trivial, rfl, trivial, hS⟩ | exact ⟨rfl, trivial, hS⟩
    · have k0 : vals 0 = .agg #[.int .i64 x, .int .i64 y] := hφ 0 (hd 0 (by decide))
      refine wpAt_of rfl rfl ?_
      simp only [frOf, Act.put]
      go_wp2_with fail
      refine (textI_is _ _ T _ (tab_below htab (HeldL.below hS)) hT.out).mono ?_
      rintro e W' ⟨rfl, hb⟩
      go_wp2_with fail
      first | exact ⟨trivial, rfl, trivial, HeldL.next hb hS⟩ | exact ⟨rfl, trivial, HeldL.next hb hS⟩
    · have c0 : W.cell? ⟨w1.heap.size, 0, none⟩ = some (.int .i64 x) := HeldL.cell hS mA (i := 0) rfl
      have c1 : W.cell? ⟨w1.heap.size, 1, none⟩ = some (.int .i64 y) := HeldL.cell hS mA (i := 1) rfl
      refine wpAt_of rfl rfl ?_
      simp only [frOf, Act.put]
      go_wp2_with fail
      first | exact ⟨trivial, rfl, trivial, hS⟩ | exact ⟨rfl, trivial, hS⟩
    · have k2 : vals 2 = .agg #[.int .i64 x, .int .i64 y] := hφ 2 (hd 2 (by decide))
      refine wpAt_of rfl rfl ?_
      simp only [frOf, Act.put]
      go_wp2_with fail
      refine (textS_is _ _ T _ hT.out).mono ?_
      rintro e W' ⟨rfl, hb⟩
      go_wp2_with fail
      first | exact ⟨trivial, rfl, trivial, HeldL.next hb hS⟩ | exact ⟨rfl, trivial, HeldL.next hb hS⟩
    · have k1 : vals 1 = .string T := hφ 1 (hd 1 (by decide))
      have k3 : vals 3 = .string T := hφ 3 (hd 3 (by decide))
      refine wpAt_of rfl rfl ?_
      simp only [frOf, Act.put]
      go_wp2_with fail
      first | exact ⟨trivial, rfl, trivial, hS⟩ | exact ⟨rfl, trivial, hS⟩
    · have k4 : vals 4 = .bool false := hφ 4 (hd 4 (by decide))
      refine wpAt_of rfl rfl ?_
      simp only [frOf, Act.put]
      go_wp2_with fail
      first | exact ⟨trivial, rfl, trivial, hS⟩ | exact ⟨rfl, trivial, hS⟩
    · have k5 : vals 5 = .bool false := hφ 5 (hd 5 (by decide))
      have c0 : W.cell? ⟨w3.heap.size, 0, none⟩ = some (.int .i64 p) := HeldL.cell hS mX (i := 0) rfl
      have c1 : W.cell? ⟨w3.heap.size, 1, none⟩ = some (.int .i64 q) := HeldL.cell hS mX (i := 1) rfl
      simp only [wpAt, List.getElem?_toArray, List.getElem?_cons_succ, List.getElem?_cons_zero, slotOf, frOf, Act.put]
      go_wp2_with fail
      first | exact ⟨trivial, rfl, trivial, hS⟩ | exact ⟨rfl, trivial, hS⟩
    · have k5 : vals 5 = .bool false := hφ 5 (hd 5 (by decide))
      have c0 : W.cell? ⟨w4.heap.size, 0, none⟩ = some (.int .i64 p) := HeldL.cell hS mW (i := 0) rfl
      have c1 : W.cell? ⟨w4.heap.size, 1, none⟩ = some (.int .i64 q) := HeldL.cell hS mW (i := 1) rfl
      simp only [wpAt, List.getElem?_toArray, List.getElem?_cons_succ, List.getElem?_cons_zero, slotOf, frOf, Act.put]
      go_wp2_with fail
      first | exact ⟨trivial, rfl, trivial, hS⟩ | exact ⟨rfl, trivial, hS⟩
    · have k5 : vals 5 = .bool false := hφ 5 (hd 5 (by decide))
      have k6 : vals 6 = .agg #[.int .i64 p, .int .i64 q] := hφ 6 (hd 6 (by decide))
      have k7 : vals 7 = .agg #[.int .i64 p, .int .i64 q] := hφ 7 (hd 7 (by decide))
      simp only [wpAt, List.getElem?_toArray, List.getElem?_cons_succ, List.getElem?_cons_zero, slotOf, frOf, Act.put]
      go_wp2_with fail
      first | exact ⟨trivial, rfl, trivial, hS⟩ | exact ⟨rfl, trivial, hS⟩
    · have k5 : vals 5 = .bool false := hφ 5 (hd 5 (by decide))
      have k8 : vals 8 = .bool false := hφ 8 (hd 8 (by decide))
      refine wpAt_of rfl rfl ?_
      simp only [frOf, Act.put]
      go_wp2_with fail
      first | exact ⟨trivial, rfl, trivial, hS⟩ | exact ⟨rfl, trivial, hS⟩
    · have k9 : vals 9 = .bool false := hφ 9 (hd 9 (by decide))
      refine wpAt_of rfl rfl ?_
      simp only [frOf, Act.put]
      go_wp2_with fail
      first | exact ⟨trivial, rfl, trivial, hS⟩ | exact ⟨rfl, trivial, hS⟩
    · have k10 : vals 10 = .bool false := hφ 10 (hd 10 (by decide))
      simp only [wpAt, List.getElem?_toArray, List.getElem?_cons_succ, List.getElem?_cons_zero, slotOf, frOf, Act.put]
      go_wp2_with fail
      first | exact ⟨trivial, rfl, trivial, hS⟩ | exact ⟨rfl, trivial, hS⟩
    · have k10 : vals 10 = .bool false := hφ 10 (hd 10 (by decide))
      simp only [wpAt, List.getElem?_toArray, List.getElem?_cons_succ, List.getElem?_cons_zero, slotOf, frOf, Act.put]
      go_wp2_with fail
      first | exact ⟨trivial, rfl, trivial, hS⟩ | exact ⟨rfl, trivial, hS⟩
    · have k10 : vals 10 = .bool false := hφ 10 (hd 10 (by decide))
      have k11 : vals 11 = .bool c := hφ 11 (hd 11 (by decide))
      have k12 : vals 12 = .bool c := hφ 12 (hd 12 (by decide))
      simp only [wpAt, List.getElem?_toArray, List.getElem?_cons_succ, List.getElem?_cons_zero, slotOf, frOf, Act.put]
      go_wp2_with fail
      first | exact ⟨trivial, rfl, trivial, hS⟩ | exact ⟨rfl, trivial, hS⟩
    · have k10 : vals 10 = .bool false := hφ 10 (hd 10 (by decide))
      have k13 : vals 13 = .bool false := hφ 13 (hd 13 (by decide))
      refine wpAt_of rfl rfl ?_
      simp only [frOf, Act.put]
      go_wp2_with fail
      first | exact ⟨trivial, rfl, trivial, hS⟩ | exact ⟨rfl, trivial, hS⟩
  · intro L vals W hall hφ hS
    have k0 : vals 0 = .agg #[.int .i64 x, .int .i64 y] := hφ 0 (by decide)
    have k1 : vals 1 = .string T := hφ 1 (by decide)
    have k2 : vals 2 = .agg #[.int .i64 x, .int .i64 y] := hφ 2 (by decide)
    have k3 : vals 3 = .string T := hφ 3 (by decide)
    have k4 : vals 4 = .bool false := hφ 4 (by decide)
    have k5 : vals 5 = .bool false := hφ 5 (by decide)
    have k6 : vals 6 = .agg #[.int .i64 p, .int .i64 q] := hφ 6 (by decide)
    have k7 : vals 7 = .agg #[.int .i64 p, .int .i64 q] := hφ 7 (by decide)
    have k8 : vals 8 = .bool false := hφ 8 (by decide)
    have k9 : vals 9 = .bool false := hφ 9 (by decide)
    have k10 : vals 10 = .bool false := hφ 10 (by decide)
    have k11 : vals 11 = .bool c := hφ 11 (by decide)
    have k12 : vals 12 = .bool c := hφ 12 (by decide)
    have k13 : vals 13 = .bool false := hφ 13 (by decide)
    have k14 : vals 14 = .bool false := hφ 14 (by decide)
    simp only [frOf, Act.put, List.setIfInBounds_toArray, List.set_cons_succ, List.set_cons_zero, k0, k1, k2, k3, k4, k5, k6, k7, k8, k9, k10, k11, k12, k13, k14]
    clear k0 k1 k2 k3 k4 k5 k6 k7 k8 k9 k10 k11 k12 k13 k14
    clear hall hφ hS0
    cases c
    · have HS := hS
      clear hS
      have a0' := HS.cell mA (i := 0) rfl
      have a1' := HS.cell mA (i := 1) rfl
      dsimp only at a0' a1'
      go_wp2_with fail
      refine (itvOkS _ _ _).mono ?_
      rintro e w7 ⟨rfl, b7⟩
      have HK := HeldL.next b7 HS
      clear HS b7 a0' a1'
      have a0' := HK.cell mA (i := 0) rfl
      have a1' := HK.cell mA (i := 1) rfl
      dsimp only at a0' a1'
      cases oka : itvOk x y
      · have hT0 : T = ⟨#[]⟩ := by have := hT.out; rw [itvText_no oka] at this; exact this.symm
        go_wp2_with fail
        refine (textI_is _ _ T _ (tab_below htab HK.below) hT.out).mono ?_
        rintro e w8 ⟨rfl, b8⟩
        have HM := HeldL.next b8 HK
        subst hT0
        go_wp2_with (first | (go_at_call 11; refine (owOkT _).mono ?_; rintro e w' ⟨rfl, rfl⟩))
        go_ret
        exact ⟨rfl, HM.below⟩
      · have HI : Hid (IsItv T.data.toList x y true) := .inl ⟨rfl, oka, by rw [← hT.out, list_back, itvText_is oka]⟩
        have hTs : T.size ≤ 20 := by rw [← hT.out]; exact itvText_size x y
        clear oka
        go_wp2_with fail
        refine (textI_is _ _ T _ (tab_below htab HK.below) hT.out).mono ?_
        rintro e w8 ⟨rfl, b8⟩
        have HM := HeldL.next b8 HK
        clear HK b8 a0' a1'
        go_wp2_with fail
        refine (itvReadI T _ (by omega) (tab_below htab HM.below) _ _ _ _ (var_below hp HM.below) (var_below hq HM.below) mx ((HM.below.cell (p := ⟨0, 0, none⟩) hmlt).trans hmx)).mono ?_
        rintro e w9 ⟨x', y', b', rfl, k9, b9⟩
        obtain ⟨rfl, rfl, rfl⟩ := isItv_one k9 HI.out
        have HN := HeldL.new (x := .int .i64 x') (y := .int .i64 y') (t := 24) (HeldL.next b9 HM)
        clear HM b9 k9
        have a0' := HN.cell (List.mem_cons_of_mem _ mA) (i := 0) rfl
        have a1' := HN.cell (List.mem_cons_of_mem _ mA) (i := 1) rfl
        have b0' := HN.cell List.mem_cons_self (i := 0) rfl
        have b1' := HN.cell List.mem_cons_self (i := 1) rfl
        dsimp only at a0' a1' b0' b1'
        go_wp2_with fail
        go_ret
        exact ⟨rfl, HN.below⟩
    · obtain ⟨T2, hT20⟩ : ∃ T, (⟨(itvText p q).toArray⟩ : ByteArray) = T := ⟨_, rfl⟩
      have hT2 : Hid ((⟨(itvText p q).toArray⟩ : ByteArray) = T2) := hT20
      have hse : T2 = s := by
        rcases R3.out with ⟨_, k1, k2⟩ | ⟨k, _⟩
        · rw [← hT20, itvText_is k1, k2]
        · cases k
      subst hse
      clear hT20
      have b0' := hS.cell mX (i := 0) rfl
      have b1' := hS.cell mX (i := 1) rfl
      dsimp only at b0' b1'
      go_wp2_with fail
      refine (textI_is _ _ T2 _ (tab_below htab hS.below) hT2.out).mono ?_
      rintro e w6 ⟨rfl, b6⟩
      have HS := HeldL.next b6 hS
      clear hS b6 b0' b1'
      have a0' := HS.cell mA (i := 0) rfl
      have a1' := HS.cell mA (i := 1) rfl
      dsimp only at a0' a1'
      go_wp2_with fail
      refine (itvOkS _ _ _).mono ?_
      rintro e w7 ⟨rfl, b7⟩
      have HK := HeldL.next b7 HS
      clear HS b7 a0' a1'
      have a0' := HK.cell mA (i := 0) rfl
      have a1' := HK.cell mA (i := 1) rfl
      dsimp only at a0' a1'
      cases oka : itvOk x y
      · have hT0 : T = ⟨#[]⟩ := by have := hT.out; rw [itvText_no oka] at this; exact this.symm
        go_wp2_with fail
        refine (textI_is _ _ T _ (tab_below htab HK.below) hT.out).mono ?_
        rintro e w8 ⟨rfl, b8⟩
        have HM := HeldL.next b8 HK
        subst hT0
        go_wp2_with (first | (go_at_call 11; refine (owOkT _).mono ?_; rintro e w' ⟨rfl, rfl⟩))
        go_ret
        exact ⟨rfl, HM.below⟩
      · have HI : Hid (IsItv T.data.toList x y true) := .inl ⟨rfl, oka, by rw [← hT.out, list_back, itvText_is oka]⟩
        have hTs : T.size ≤ 20 := by rw [← hT.out]; exact itvText_size x y
        clear oka
        go_wp2_with fail
        refine (textI_is _ _ T _ (tab_below htab HK.below) hT.out).mono ?_
        rintro e w8 ⟨rfl, b8⟩
        have HM := HeldL.next b8 HK
        clear HK b8 a0' a1'
        go_wp2_with fail
        refine (itvReadI T _ (by omega) (tab_below htab HM.below) _ _ _ _ (var_below hp HM.below) (var_below hq HM.below) mx ((HM.below.cell (p := ⟨0, 0, none⟩) hmlt).trans hmx)).mono ?_
        rintro e w9 ⟨x', y', b', rfl, k9, b9⟩
        obtain ⟨rfl, rfl, rfl⟩ := isItv_one k9 HI.out
        have HN := HeldL.new (x := .int .i64 x') (y := .int .i64 y') (t := 24) (HeldL.next b9 HM)
        clear HM b9 k9
        have a0' := HN.cell (List.mem_cons_of_mem _ mA) (i := 0) rfl
        have a1' := HN.cell (List.mem_cons_of_mem _ mA) (i := 1) rfl
        have b0' := HN.cell List.mem_cons_self (i := 0) rfl
        have b1' := HN.cell List.mem_cons_self (i := 1) rfl
        dsimp only at a0' a1' b0' b1'
        go_wp2_with fail
        go_ret
        exact ⟨rfl, HN.below⟩

theorem contract (H : Type) (enc : TypeId × Value → H) (W : World) (base : Nat) (args : Array Value) (ds gs : List (DataW H)) (before : List MemPlace)
    (hval : ∀ (j : Nat) t v, Tryd.f3.params[j]? = some t → args[j]? = some v → Value.okWide Tryd.prog W .any base t v)
    (hW : DataW.Whole enc Tryd.prog Tryd.f3.params.toList Rows.fnItvTextSpec.vars false W args.toList ds gs before) (hL : laidMetH Tryd.prog Rows.fnItvTextRow.laid W) (hSh : W.ShapedOpen Tryd.prog) :
    Calls Tryd.prog 3 args W fun e W' => ∃ v, e = .returned v ∧ Rows.fnItvTextSpec.post enc Tryd.prog Tryd.f3 false true false false W args v W' := by
  have hW' := hW
  obtain ⟨p, q, hA0, hV, rfl, hfz, hnd⟩ := hW
  have hA : DataW.TrodAll enc Tryd.prog W 0 (fun _ => true) true Tryd.f3.params.toList args.toList ds p := hA0
  rw [Tryd.params3] at hA hval
  obtain ⟨v0, vs0, d0, ds0, p0, q0, hargs, rfl, rfl, h0, r0'⟩ := trodAll_cons hA
  obtain ⟨v1, vs1, d1, ds1, p1, q1, rfl, rfl, rfl, h1, r1'⟩ := trodAll_cons r0'
  obtain ⟨rfl, rfl, rfl⟩ := trodAll_nil r1'
  obtain rfl : args = #[v0, v1] := by cases args; simp_all
  obtain ⟨rfl, rfl⟩ := trodVars_none hV
  obtain ⟨a0, len0, cap0, rfl⟩ := okWide_slice Tryd.underlying22 (hval 0 22 v0 rfl rfl)
  have k0 := h0
  have lt0 : ∀ x ∈ p0, x.block < W.heap.size := by obtain ⟨m, hm⟩ := k0; exact DataW.trod_lt m _ _ _ hm
  obtain ⟨z0, hz0, r0⟩ : ∃ z : Nat → Int, (∀ i, 0 ≤ z i ∧ z i ≤ 255) ∧ Bytes W a0 len0 cap0 z := by
    obtain ⟨fuel, hf⟩ := h0
    rcases open_ints Tryd.underlying22 Tryd.underlying5 (by kernel_rfl) hf with ⟨hcs, _⟩ | ⟨x, l, c, zs, hcs, _, hl, hm, hz, _, hcell, hwz⟩
    · simp [Value.cells] at hcs
      obtain ⟨rfl, rfl, rfl⟩ := hcs
      exact ⟨fun _ => 0, fun _ => by simp, .inl rfl⟩
    · simp [Value.cells] at hcs
      obtain ⟨rfl, rfl, rfl⟩ := hcs
      exact bytes_of hl (by simpa using hz) hcell hwz
  obtain ⟨a1, len1, cap1, rfl⟩ := okWide_slice Tryd.underlying22 (hval 1 22 v1 rfl rfl)
  have k1 := h1
  have lt1 : ∀ x ∈ p1, x.block < W.heap.size := by obtain ⟨m, hm⟩ := k1; exact DataW.trod_lt m _ _ _ hm
  obtain ⟨z1, hz1, r1⟩ : ∃ z : Nat → Int, (∀ i, 0 ≤ z i ∧ z i ≤ 255) ∧ Bytes W a1 len1 cap1 z := by
    obtain ⟨fuel, hf⟩ := h1
    rcases open_ints Tryd.underlying22 Tryd.underlying5 (by kernel_rfl) hf with ⟨hcs, _⟩ | ⟨x, l, c, zs, hcs, _, hl, hm, hz, _, hcell, hwz⟩
    · simp [Value.cells] at hcs
      obtain ⟨rfl, rfl, rfl⟩ := hcs
      exact ⟨fun _ => 0, fun _ => by simp, .inl rfl⟩
    · simp [Value.cells] at hcs
      obtain ⟨rfl, rfl, rfl⟩ := hcs
      exact bytes_of hl (by simpa using hz) hcell hwz
  clear hA0
  obtain ⟨qe, hq⟩ := sent_q hL
  obtain ⟨pe, hp⟩ := sent_p hL
  obtain ⟨mx, hmx⟩ := maxLen_in hSh
  refine (walk a0 len0 cap0 z0 a1 len1 cap1 z1 W hz0 r0 hz1 r1 (table hL) qe hq pe hp mx hmx).mono fun e W' ⟨he, bel⟩ => ?_
  subst he
  exact ⟨_, rfl, _, _, _, [], _, [], hW', trodAll_mk1 (shut_bool Tryd.underlying4 _), (trodAll_cons_mk (Below.trod laidOut (by kernel_rfl) (of_decide_eq_true (by kernel_rfl)) k0 bel lt0) (trodAll_cons_mk (Below.trod laidOut (by kernel_rfl) (of_decide_eq_true (by kernel_rfl)) k1 bel lt1) trodAll_mk0)), rfl, bel.frame _, fun h => by cases h⟩

def extra : Array Obj := #[.cells #[.string ⟨#[118, 97, 108, 117, 101, 32, 111, 117, 116, 32, 111, 102, 32, 114, 97, 110, 103, 101]⟩] 84, .cells #[.string ⟨#[105, 110, 118, 97, 108, 105, 100, 32, 115, 121, 110, 116, 97, 120]⟩] 84]
def setRow (cs : Array Value) : Obj → Obj
  | .cells _ t frozen => .cells cs t frozen
  | o => o
def tabs (low : Nat) (h : Array Obj) : Array Obj :=
  (((((h.modify 4 (setRow #[.int .u8 0, .int .u8 1, .int .u8 28, .int .u8 2, .int .u8 29, .int .u8 14, .int .u8 24, .int .u8 3, .int .u8 30, .int .u8 22, .int .u8 20, .int .u8 15, .int .u8 25, .int .u8 17, .int .u8 4, .int .u8 8, .int .u8 31, .int .u8 27, .int .u8 13, .int .u8 23, .int .u8 21, .int .u8 19, .int .u8 16, .int .u8 7, .int .u8 26, .int .u8 12, .int .u8 18, .int .u8 6, .int .u8 11, .int .u8 5, .int .u8 10, .int .u8 9])).modify 5 (setRow #[.int .u8 0, .int .u8 1, .int .u8 56, .int .u8 2, .int .u8 57, .int .u8 49, .int .u8 28, .int .u8 3, .int .u8 61, .int .u8 58, .int .u8 42, .int .u8 50, .int .u8 38, .int .u8 29, .int .u8 17, .int .u8 4, .int .u8 62, .int .u8 47, .int .u8 59, .int .u8 36, .int .u8 45, .int .u8 43, .int .u8 51, .int .u8 22, .int .u8 53, .int .u8 39, .int .u8 33, .int .u8 30, .int .u8 24, .int .u8 18, .int .u8 12, .int .u8 5, .int .u8 63, .int .u8 55, .int .u8 48, .int .u8 27, .int .u8 60, .int .u8 41, .int .u8 37, .int .u8 16, .int .u8 46, .int .u8 35, .int .u8 44, .int .u8 21, .int .u8 52, .int .u8 32, .int .u8 23, .int .u8 11, .int .u8 54, .int .u8 26, .int .u8 40, .int .u8 15, .int .u8 34, .int .u8 20, .int .u8 31, .int .u8 10, .int .u8 25, .int .u8 14, .int .u8 19, .int .u8 9, .int .u8 13, .int .u8 8, .int .u8 7, .int .u8 6])).modify 3 (setRow #[.int .u64 1, .int .u64 10, .int .u64 100, .int .u64 1000, .int .u64 10000, .int .u64 100000, .int .u64 1000000, .int .u64 10000000, .int .u64 100000000, .int .u64 1000000000, .int .u64 10000000000, .int .u64 100000000000, .int .u64 1000000000000, .int .u64 10000000000000, .int .u64 100000000000000, .int .u64 1000000000000000, .int .u64 10000000000000000, .int .u64 100000000000000000, .int .u64 1000000000000000000, .int .u64 10000000000000000000])).modify 2 (setRow #[.iface 82 (.pointer (some ⟨low + 0, 0, none⟩))])).modify 1 (setRow #[.iface 82 (.pointer (some ⟨low + 1, 0, none⟩))]))
theorem laid_met (os : Os) : laidMet Tryd.prog Rows.fnItvTextRow.laid (({ World.holding Tryd.prog os ⟨extra, #[], []⟩ with heap := tabs (World.holding Tryd.prog default ⟨#[], #[], []⟩).heap.size (World.holding Tryd.prog os ⟨extra, #[], []⟩).heap }).forCall (fun _ _ => 0) ⟨#[], #[.slice none 0 0, .slice none 0 0], []⟩).memory :=
  laidMet_of_run' 8 (by kernel_rfl) (by kernel_rfl)
theorem reads (os : Os) {H : Type} (enc : TypeId × Value → H) : ∃ places, DataW.whole enc Tryd.prog (({ World.holding Tryd.prog os ⟨extra, #[], []⟩ with heap := tabs (World.holding Tryd.prog default ⟨#[], #[], []⟩).heap.size (World.holding Tryd.prog os ⟨extra, #[], []⟩).heap }).forCall (fun _ _ => 0) ⟨#[], #[.slice none 0 0, .slice none 0 0], []⟩).memory Tryd.f3.params.toList Rows.fnItvTextSpec.vars false (#[.slice none 0 0, .slice none 0 0] : Array Value).toList 8 = some ([.nil, .nil], [], places) :=
  ⟨[], by kernel_rfl⟩

set_option maxRecDepth 100000 in
theorem lifted (os : Os) (started : os.Started) (H : Type) (enc : TypeId × Value → H) (F : Stop.Interp) :
    ReturnsInHanded {} Tryd.checked os 3 .any ((OpenSpec.ofChange Rows.fnItvTextSpec).preRow enc Tryd.prog Tryd.f3 Rows.fnItvTextRow.domain false Rows.fnItvTextRow.laid) (((OpenSpec.ofChange Rows.fnItvTextSpec).at F).post enc Tryd.prog Tryd.f3 false true false false) := by
  obtain ⟨places, hx⟩ := reads os enc
  refine returnsInHanded_of_row (C := Tryd.checked) (s := OpenSpec.ofChange Rows.fnItvTextSpec) own started (by kernel_rfl) Tryd.func3
    (witness_row_at (enc := enc) (C := Tryd.checked) false ({ World.holding Tryd.prog os ⟨extra, #[], []⟩ with heap := tabs (World.holding Tryd.prog default ⟨#[], #[], []⟩).heap.size (World.holding Tryd.prog os ⟨extra, #[], []⟩).heap }) #[.slice none 0 0, .slice none 0 0] rfl (by kernel_rfl) (by kernel_rfl) (by kernel_rfl)
      (OpenSpec.preRow_of_cond 8 hx (by kernel_rfl) (fun k hk => by cases hk) (by kernel_rfl) (laid_met os))) ?_
  intro W base args ds gs before hval hW _ _ _ hL hSh _
  exact contract H enc W base args ds gs before hval hW hL hSh

theorem said : Rows.FnItvTextSaid :=
  OpenClaim.holds_of_cond 3 Tryd.f3 rfl rfl rfl rfl rfl rfl rfl ⟨rfl, rfl, rfl, rfl, rfl⟩ rfl rfl rfl rfl rfl (by kernel_rfl) Tryd.func3 (by kernel_rfl)
    (of_decide_eq_true (by kernel_rfl)) (by unfold Func.isWrapper; first | (rw [if_pos (by decide +kernel)]; kernel_rfl) | (rw [if_neg (by decide +kernel)]; exact ⟨rfl, rfl⟩))
    (fun os started H enc _ F => by rw [OpenClaim.pre_eq_preRow]; exact lifted os started H enc F)

theorem plain (f : FuncId) (fn : Func) (hf : Tryd.pinned.checked.prog.funcNamed "loop.example/outwork/laws.FnItvText" = some f) (hfn : Tryd.pinned.checked.prog.funcs[f]? = some fn) :
    true = Tryd.pinned.checked.prog.looks [] ∧ ∀ (j : Nat) t, fn.params[j]? = some t → Tryd.pinned.checked.prog.wantsStandIn t = false := by
  obtain rfl : f = 3 := Option.some.inj ((show Tryd.prog.funcNamed "loop.example/outwork/laws.FnItvText" = some 3 by kernel_rfl).symm.trans hf) |>.symm
  obtain rfl : fn = Tryd.f3 := (Option.some.inj (Tryd.func3.symm.trans hfn)).symm
  refine ⟨by kernel_rfl, fun j t ht => ?_⟩
  rw [Tryd.params3] at ht
  obtain rfl : t = 22 := by simpa using Array.mem_of_getElem? ht
  · exact (show Tryd.prog.wantsStandIn 22 = false by kernel_rfl)

theorem proved : Rows.FnItvTextCardSaid :=
  Claim7.holds_tied_plain_at .later [] _ _ _ _ said (fun _ h => by cases h) (by kernel_rfl) (fun _ h => by cases h) fnItvText_row_tie rfl ⟨rfl, rfl⟩ (by kernel_rfl) rfl plain (by kernel_rfl)
#print axioms proved
end Go.Proofs.YtceanngbcolbaaaDoor.fnItvText
