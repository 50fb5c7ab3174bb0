/- Whatever bytes are handed in, the law FnItvWide returns true. Of more than 1048576 bytes the law itself answers true. Condition: the table of steps that the row lists holds what its initialiser lays; the card ties that to the program's text. -/
import Derived.Test.YticljcpdihaheaaDoorDrawIn2
import Derived.Test.YticljcpdihaheaaDoorDrawSt
import Derived.Test.YticljcpdihaheaaDoorItvStepI
import Derived.Test.YticljcpdihaheaaDoorItvWideI
import Derived.Test.YticljcpdihaheaaDoorItvWide
import Derived.Test.YticljcpdihaheaaDoorRegInv
import Derived.Test.YticljcpdihaheaaDoorCards
import Derived.Test.YticljcpdihaheaaDoorTie
import Derived.Deep.RegionHeld3
import Derived.Deep.DeepCutAuto
import Derived.WalkKit
import Derived.ProofKit
import Derived.OpenShut
import Derived.ShutString
import Derived.ChangeOld
import Derived.Below
import Derived.ChangeVars
import Derived.Carry
import Derived.Deep.DeepHandedRow
import Derived.Lib.LaidTab
import Derived.LaidSub
namespace Go.Proofs.YticljcpdihaheaaDoor.fnItvWide
open Go.ChangeShapes Go.WideShapes Go.ChangeAt Go.RowKit
open Go.ChangeMaps (open_string shut_string)
set_option linter.unusedVariables false

theorem own : ownKnob Tryd.prog.godebug = none := by kernel_rfl
theorem laidOut : laidOutB Tryd.prog = true := by kernel_rfl
theorem gVar : Tryd.prog.globalNamed "loop.example/outwork/impl.wideSteps" = some 0 := by kernel_rfl
theorem gVarType : (Tryd.prog.globals[0]?).map (·.type) = some 41 := by kernel_rfl
theorem cellsVar : Tryd.prog.cellsOf 41 = 11 := by kernel_rfl
theorem cellsVarOne : Tryd.prog.cellsOf 3 = 1 := by kernel_rfl
theorem varTable {W : World} (h : laidMetH Tryd.prog Rows.fnItvWideRow.laid W) : Lib.TabIs Tryd.prog W "loop.example/outwork/impl.wideSteps" .i64 [-32768, -1000, -100, -10, -1, 0, 1, 10, 100, 1000, 32767] := by
  have h1 := h.filter (fun x => x.1 == "loop.example/outwork/impl.wideSteps")
  have e : Rows.fnItvWideRow.laid.filter (fun x => x.1 == "loop.example/outwork/impl.wideSteps") = [("loop.example/outwork/impl.wideSteps", Lib.tabData .i64 [-32768, -1000, -100, -10, -1, 0, 1, 10, 100, 1000, 32767])] := by kernel_rfl
  rw [e] at h1
  exact Lib.tabIs_of_head (rest := []) gVar gVarType Tryd.underlying41 Tryd.underlying3 cellsVarOne cellsVar h1
theorem varStays {W W' : World} {cs : Array Value} (h : W.var? Tryd.prog "loop.example/outwork/impl.wideSteps" = some cs) (hb : Below W.heap.size W W') : W'.var? Tryd.prog "loop.example/outwork/impl.wideSteps" = some cs := by
  unfold World.var? at *
  rw [gVar] at h ⊢
  simp only [Option.bind_some] at h ⊢
  have hlt : 0 < W.heap.size := by
    rcases Nat.lt_or_ge 0 W.heap.size with h' | h'
    · exact h'
    · rw [Array.getElem?_eq_none h'] at h; simp at h
  rw [hb.block _ hlt]
  exact h

theorem inI_is (a b c d : Int) (t : Bool) (w : World) (h : itvIn a b c d = t) :
    Calls Tryd.prog 9 #[.agg #[.int .i64 a, .int .i64 b], .agg #[.int .i64 c, .int .i64 d]] w fun e w' => e = .returned (.bool t) ∧ Below w.heap.size w w' := by
  subst h; exact itvInI a b c d w
theorem ok_all {a b : Int} (h : itvOk a b = true) : -32768 ≤ a ∧ a ≤ 32767 ∧ -32768 ≤ b ∧ b ≤ 32767 ∧ a ≤ b := by
  obtain ⟨h1, h2, h3⟩ := itvOk_of h
  exact ⟨ok_lo h1, ok_hi h1, ok_lo h2, ok_hi h2, h3⟩
theorem ok_mk {a b : Int} (h : -32768 ≤ a ∧ b ≤ 32767 ∧ a ≤ b) : itvOk a b = true := by
  simp [itvOk, okB]; omega
theorem in_mk {a b c d : Int} (h1 : itvOk a b = true) (h2 : itvOk c d = true) (h3 : c ≤ a ∧ b ≤ d) : itvIn a b c d = true := by
  simp [itvIn, h1, h2, h3.1, h3.2]
theorem in_of {a b c d : Int} (h : itvIn a b c d = true) : itvOk a b = true ∧ itvOk c d = true ∧ c ≤ a ∧ b ≤ d := by
  simp [itvIn] at h
  exact ⟨h.1.1.1, h.1.1.2, h.1.2, h.2⟩
theorem owOkT (w : World) : Calls Tryd.prog 8 #[] w fun e w' => e = .returned (.bool true) ∧ w' = w := by
  go_enter Tryd.func8, Tryd.ntmps8
  go_wp2_with (go_at_call 17; refine (okI _ _).mono ?_; rintro e w' ⟨rfl, rfl⟩)
  go_ret
  exact ⟨rfl, rfl⟩
theorem wideI_is (a b c d l h : Int) (w : World) (hst : StepsIn w) (hl : wideLo a b c d = l) (hh : wideHi a b c d = h) :
    Calls Tryd.prog 5 #[.agg #[.int .i64 a, .int .i64 b], .agg #[.int .i64 c, .int .i64 d]] w fun e w' => e = .returned (.agg #[.int .i64 l, .int .i64 h]) ∧ Below w.heap.size w w' := by
  subst hl hh; exact wideI a b c d w hst
theorem wideS_is (a b c d l h : Int) (w : World) (hl : wideLo a b c d = l) (hh : wideHi a b c d = h) :
    Calls Tryd.prog 6 #[.agg #[.int .i64 a, .int .i64 b], .agg #[.int .i64 c, .int .i64 d]] w fun e w' => e = .returned (.agg #[.int .i64 l, .int .i64 h]) ∧ Below w.heap.size w w' := by
  subst hl hh; exact wideS a b c d w
theorem isb {x y : Int} (h : x ≠ y) {v : Value} (hv : v = .bool (x == y)) : Is (.bool false) v := by
  subst hv; rw [beq_eq_false_iff_ne.2 h]; rfl
theorem isd {x y : Int} (h : x ≠ y) {v : Value} (hv : v = .bool (decide (x = y))) : Is (.bool false) v := by
  subst hv; rw [decide_eq_false h]; rfl
theorem stp_in (j : Nat) : -32768 ≤ stp j ∧ stp j ≤ 32767 := by
  unfold stp; split <;> omega
theorem dnA_step (n : Int) : ∀ k, k ≤ 11 → ∃ j, j < 11 ∧ stp j = dnA (-32768) n k
  | 0, _ => ⟨0, by omega, rfl⟩
  | k + 1, h => by
    rw [dnA]
    split
    · exact ⟨k, by omega, rfl⟩
    · exact dnA_step n k (by omega)
theorem dnA_le (n : Int) (h : -32768 ≤ n) : ∀ k, dnA (-32768) n k ≤ n
  | 0 => h
  | k + 1 => by
    rw [dnA]
    split
    · assumption
    · exact dnA_le n h k
theorem upA_step (n : Int) : ∀ k, k ≤ 11 → ∃ j, j < 11 ∧ stp j = upA 32767 n k
  | 0, _ => ⟨10, by omega, rfl⟩
  | k + 1, h => by
    rw [upA]
    split
    · exact ⟨10 - k, by omega, rfl⟩
    · exact upA_step n k (by omega)
theorem upA_ge (n : Int) (h : n ≤ 32767) : ∀ k, n ≤ upA 32767 n k
  | 0 => h
  | k + 1 => by
    rw [upA]
    split
    · assumption
    · exact upA_ge n h k
theorem wide_ends {a b c d : Int} (h1 : itvOk a b = true) (h2 : itvOk c d = true) : (wideLo a b c d = a ∧ a ≤ c ∨ wideLo a b c d ≠ a ∧ wideLo a b c d ≤ c ∧ c < a ∧ ∃ j, j < 11 ∧ stp j = wideLo a b c d) ∧ (wideHi a b c d = b ∧ d ≤ b ∨ wideHi a b c d ≠ b ∧ d ≤ wideHi a b c d ∧ b < d ∧ ∃ j, j < 11 ∧ stp j = wideHi a b c d) := by
  have k1 := ok_all h1
  have k2 := ok_all h2
  have t : two a b c d = true := by simp [two, h1, h2]
  constructor
  · rw [wideLo, if_pos t]
    by_cases e : c < a
    · rw [if_pos e]
      have l := dnA_le c (by omega) 11
      exact .inr ⟨by omega, l, e, dnA_step c 11 (by omega)⟩
    · rw [if_neg e]
      exact .inl ⟨rfl, by omega⟩
  · rw [wideHi, if_pos t]
    by_cases e : b < d
    · rw [if_pos e]
      have l := upA_ge d (by omega) 11
      exact .inr ⟨by omega, l, e, upA_step d 11 (by omega)⟩
    · rw [if_neg e]
      exact .inl ⟨rfl, by omega⟩
theorem wide_has {a b c d l h : Int} (h1 : itvOk a b = true) (h2 : itvOk c d = true) (hl : wideLo a b c d = l) (hh : wideHi a b c d = h) : itvIn a b l h = true ∧ itvIn c d l h = true := by
  have k1 := ok_all h1
  have k2 := ok_all h2
  obtain ⟨e1, e2⟩ := wide_ends h1 h2
  rw [hl] at e1
  rw [hh] at e2
  have f1 : l ≤ a ∧ l ≤ c ∧ -32768 ≤ l := by
    rcases e1 with e1 | ⟨_, e1, _, j, _, e2⟩
    · omega
    · have := stp_in j; omega
  have f2 : b ≤ h ∧ d ≤ h ∧ h ≤ 32767 := by
    rcases e2 with e1 | ⟨_, e1, _, j, _, e2⟩
    · omega
    · have := stp_in j; omega
  have o : itvOk l h = true := ok_mk (by omega)
  exact ⟨in_mk h1 o (by omega), in_mk h2 o (by omega)⟩
theorem wide_rest {a b c d : Int} (h : itvIn c d a b = true) : wideLo a b c d = a ∧ wideHi a b c d = b := by
  obtain ⟨h1, h2, h3, h4⟩ := in_of h
  have t : two a b c d = true := by simp [two, h1, h2]
  rw [wideLo, wideHi, if_pos t, if_pos t, if_neg (by omega), if_neg (by omega)]
  exact ⟨rfl, rfl⟩
def NF (w : World) (R : Nat) (F : List Sp) (W : World) : Prop := Below w.heap.size w W ∧ Fs w R F W
theorem NF.set {w : World} {R : Nat} {F : List Sp} {W : World} (h : NF w R F W) {B i : Nat} {v : Value} (hw : w.heap.size ≤ B) (hv : ∀ f ∈ F, f.b = B → f.o = i → f.P v) : NF w R F (W.setCell ⟨B, i, none⟩ v) := ⟨h.1.setCell hw v, h.2.set hv⟩
theorem NF.has {w : World} {R : Nat} {F : List Sp} {W : World} (h : NF w R F W) {f : Sp} (hf : f ∈ F) : ∃ v, W.cell? ⟨f.b, f.o, none⟩ = some v ∧ f.P v := (h.2 f hf).2.2.2.2
theorem NF.free {w : World} {R : Nat} {F : List Sp} {W : World} (h : NF w R F W) {f : Sp} (hf : f ∈ F) : W.frozen? ⟨f.b, f.o, none⟩ = false := (h.2 f hf).2.2.2.1
set_option maxRecDepth 10000 in
set_option maxHeartbeats 8000000 in
theorem drawWide (a : Option Addr) (len cap : Nat) (z : Nat → Int) (w : World) (hz : ∀ i, 0 ≤ z i ∧ z i ≤ 255) (hl : len ≤ 1048576) (h : Bytes w a len cap z) :
    Calls Tryd.prog 4 #[.slice a len cap] w (DTwo w) := by
  have b0 : Below w.heap.size w ((w.alloc (.cells #[.int .i64 0, .int .i64 0] 24)).alloc (.cells #[.int .i64 0, .int .i64 0] 24)) := by
    repeat (first | exact Below.refl _ _ | refine Below.alloc ?_ (by simp; try omega) _)
  go_enter Tryd.func4, Tryd.ntmps4
  go_wp2_with fail
  refine (drawIn a len cap z _ hz hl (h.kept b0)).mono ?_
  rintro e w1 ⟨x0, x1, y0, y1, q0, q1, q2, q3, rfl, b1⟩
  have b2 := below_tr b0 b1
  obtain ⟨hc, hf⟩ := bcell b1
  have hs1 : w.heap.size + 1 < w1.heap.size := by have := b1.size; simp at this; omega
  obtain ⟨R, hR⟩ : ∃ R, R = w1.heap.size + 2 := ⟨_, rfl⟩
  have i0 : IsI (.int .i64 0) := ⟨0, rfl, by constructor <;> omega⟩
  have n4 : Fs w R [⟨w.heap.size, 0, IsI⟩, ⟨w.heap.size, 1, IsI⟩, ⟨w.heap.size + 1, 0, IsI⟩, ⟨w.heap.size + 1, 1, IsI⟩] w1 := by
    refine Fs.cons (by show w.heap.size ≠ R; omega) (Nat.le_refl _) (by show w.heap.size < _; omega) (by rw [hf w.heap.size 0 (by simp; try omega)]; simp [go_sem]) (v := .int .i64 0) (by rw [hc w.heap.size 0 (by simp; try omega)]; simp [go_sem]) i0 ?_
    refine Fs.cons (by show w.heap.size ≠ R; omega) (Nat.le_refl _) (by show w.heap.size < _; omega) (by rw [hf w.heap.size 1 (by simp; try omega)]; simp [go_sem]) (v := .int .i64 0) (by rw [hc w.heap.size 1 (by simp; try omega)]; simp [go_sem]) i0 ?_
    refine Fs.cons (by show w.heap.size + 1 ≠ R; omega) (Nat.le_succ _) (by show w.heap.size + 1 < _; omega) (by rw [hf (w.heap.size + 1) 0 (by simp; try omega)]; simp [go_sem]) (v := .int .i64 0) (by rw [hc (w.heap.size + 1) 0 (by simp; try omega)]; simp [go_sem]) i0 ?_
    refine Fs.cons (by show w.heap.size + 1 ≠ R; omega) (Nat.le_succ _) (by show w.heap.size + 1 < _; omega) (by rw [hf (w.heap.size + 1) 1 (by simp; try omega)]; simp [go_sem]) (v := .int .i64 0) (by rw [hc (w.heap.size + 1) 1 (by simp; try omega)]; simp [go_sem]) i0 (Fs.nil _ _ _)
  have n8 := (n4.alloc (.cells #[.int .i64 x0, .int .i64 x1] 24)).alloc (.cells #[.int .i64 y0, .int .i64 y1] 24)
  have n9 := Fs.cons (f := ⟨w1.heap.size, 0, IsV (.int .i64 x0)⟩) (by show w1.heap.size ≠ R; omega) (by show w.heap.size ≤ w1.heap.size; omega) (by show w1.heap.size < _; simp; try omega) (by simp [go_sem]) (v := .int .i64 x0) (by simp [go_sem]) rfl (Fs.cons (f := ⟨w1.heap.size, 1, IsV (.int .i64 x1)⟩) (by show w1.heap.size ≠ R; omega) (by show w.heap.size ≤ w1.heap.size; omega) (by show w1.heap.size < _; simp; try omega) (by simp [go_sem]) (v := .int .i64 x1) (by simp [go_sem]) rfl (Fs.cons (f := ⟨w1.heap.size + 1, 0, IsV (.int .i64 y0)⟩) (by show w1.heap.size + 1 ≠ R; omega) (by show w.heap.size ≤ w1.heap.size + 1; omega) (by show w1.heap.size + 1 < _; simp; try omega) (by simp [go_sem]) (v := .int .i64 y0) (by simp [go_sem]) rfl (Fs.cons (f := ⟨w1.heap.size + 1, 1, IsV (.int .i64 y1)⟩) (by show w1.heap.size + 1 ≠ R; omega) (by show w.heap.size ≤ w1.heap.size + 1; omega) (by show w1.heap.size + 1 < _; simp; try omega) (by simp [go_sem]) (v := .int .i64 y1) (by simp [go_sem]) rfl n8)))
  obtain ⟨F, hF⟩ : ∃ F : List Sp, F = [⟨w1.heap.size, 0, IsV (.int .i64 x0)⟩, ⟨w1.heap.size, 1, IsV (.int .i64 x1)⟩, ⟨w1.heap.size + 1, 0, IsV (.int .i64 y0)⟩, ⟨w1.heap.size + 1, 1, IsV (.int .i64 y1)⟩, ⟨w.heap.size, 0, IsI⟩, ⟨w.heap.size, 1, IsI⟩, ⟨w.heap.size + 1, 0, IsI⟩, ⟨w.heap.size + 1, 1, IsI⟩] := ⟨_, rfl⟩
  rw [← hF] at n9
  have m0 : (⟨w.heap.size, 0, IsI⟩ : Sp) ∈ F := by rw [hF]; simp
  have m1 : (⟨w.heap.size, 1, IsI⟩ : Sp) ∈ F := by rw [hF]; simp
  have m2 : (⟨w.heap.size + 1, 0, IsI⟩ : Sp) ∈ F := by rw [hF]; simp
  have m3 : (⟨w.heap.size + 1, 1, IsI⟩ : Sp) ∈ F := by rw [hF]; simp
  have m4 : (⟨w1.heap.size, 0, IsV (.int .i64 x0)⟩ : Sp) ∈ F := by rw [hF]; simp
  have m5 : (⟨w1.heap.size, 1, IsV (.int .i64 x1)⟩ : Sp) ∈ F := by rw [hF]; simp
  have m6 : (⟨w1.heap.size + 1, 0, IsV (.int .i64 y0)⟩ : Sp) ∈ F := by rw [hF]; simp
  have m7 : (⟨w1.heap.size + 1, 1, IsV (.int .i64 y1)⟩ : Sp) ∈ F := by rw [hF]; simp
  have hFB : ∀ v, IsI v → ∀ f ∈ F, f.b = w.heap.size ∨ f.b = w.heap.size + 1 → f.P v := by
    intro v hv f hf hb
    rw [hF] at hf
    simp only [List.mem_cons, List.not_mem_nil, or_false] at hf
    rcases hf with rfl | rfl | rfl | rfl | rfl | rfl | rfl | rfl
    · dsimp only at hb; omega
    · dsimp only at hb; omega
    · dsimp only at hb; omega
    · dsimp only at hb; omega
    · exact hv
    · exact hv
    · exact hv
    · exact hv
  have bN : Below w.heap.size w ((w1.alloc (.cells #[.int .i64 x0, .int .i64 x1] 24)).alloc (.cells #[.int .i64 y0, .int .i64 y1] 24)) := by
    refine Below.alloc (Below.alloc b2 (by omega) _) (by simp; omega) _
  have hS0 : NF w R F ((w1.alloc (.cells #[.int .i64 x0, .int .i64 x1] 24)).alloc (.cells #[.int .i64 y0, .int .i64 y1] 24)).drew := ⟨bN.drew, n9.drew⟩
  clear bN n4 n8 n9 hF hR i0 hc hf b0 b1 b2 h hz
  by_cases h3 : (len : Int) % 3 = 0
  · go_wp2_with fail
    refine region_inv3 [(0, 15), (1, 16)]
      (fun j v _ => match j with
        | 0 => Is (.agg #[.int .i64 y0, .int .i64 y1]) v
        | 1 => Is (.agg #[.int .i64 x0, .int .i64 x1]) v
        | _ => True)
      (fun _ W => NF w R F W) TT
      (by kernel_rfl) (by kernel_rfl) (by kernel_rfl) (by kernel_rfl) (by kernel_rfl) rfl hS0 (fun i j v W W' _ h _ => h) ?_ ?_
    · intro i L vals W hi' hφ hS hL hd
      have hi2 : i < 4 := hi'
      clear hi'
      rcases (show i = 0 ∨ i = 1 ∨ i = 2 ∨ i = 3 by omega) with rfl | rfl | rfl | rfl
      · obtain ⟨v0, d0, rfl⟩ := NF.has hS m6
        obtain ⟨v1, d1, rfl⟩ := NF.has hS m7
        dsimp only at d0 d1
        refine wpAt_of rfl rfl ?_
        simp only [frOf, Act.put]
        go_wp2_with fail
        first | exact ⟨trivial, rfl, trivial, hS⟩ | exact ⟨rfl, trivial, hS⟩
      · obtain ⟨v0, d0, rfl⟩ := NF.has hS m4
        obtain ⟨v1, d1, rfl⟩ := NF.has hS m5
        dsimp only at d0 d1
        refine wpAt_of rfl rfl ?_
        simp only [frOf, Act.put]
        go_wp2_with fail
        first | exact ⟨trivial, rfl, trivial, hS⟩ | exact ⟨rfl, trivial, hS⟩
      · have k0 : vals 0 = .agg #[.int .i64 y0, .int .i64 y1] := hφ 0 (hd 0 (by decide))
        obtain ⟨v0, d0, -⟩ := NF.has hS m0
        obtain ⟨v1, d1, -⟩ := NF.has hS m1
        have f0 := NF.free hS m0
        have f1 := NF.free hS m1
        dsimp only at d0 d1 f0 f1
        refine wpAt_none rfl rfl ?_
        simp only [frOf, Act.put]
        go_wp2_with fail
        have hG := NF.set (NF.set hS (Nat.le_refl _) (i := 0) (v := .int .i64 y0) (fun f hf hb _ => hFB _ ⟨_, rfl, by assumption⟩ f hf (.inl hb))) (Nat.le_refl _) (i := 1) (v := .int .i64 y1) (fun f hf hb _ => hFB _ ⟨_, rfl, by assumption⟩ f hf (.inl hb))
        first | exact ⟨trivial, trivial, trivial, hG⟩ | exact ⟨trivial, trivial, hG⟩ | exact ⟨trivial, hG⟩
      · have k1 : vals 1 = .agg #[.int .i64 x0, .int .i64 x1] := hφ 1 (hd 1 (by decide))
        obtain ⟨v0, d0, -⟩ := NF.has hS m2
        obtain ⟨v1, d1, -⟩ := NF.has hS m3
        have f0 := NF.free hS m2
        have f1 := NF.free hS m3
        dsimp only at d0 d1 f0 f1
        refine wpAt_none rfl rfl ?_
        simp only [frOf, Act.put]
        go_wp2_with fail
        have hG := NF.set (NF.set hS (Nat.le_succ _) (i := 0) (v := .int .i64 x0) (fun f hf hb _ => hFB _ ⟨_, rfl, by assumption⟩ f hf (.inr hb))) (Nat.le_succ _) (i := 1) (v := .int .i64 x1) (fun f hf hb _ => hFB _ ⟨_, rfl, by assumption⟩ f hf (.inr hb))
        first | exact ⟨trivial, trivial, trivial, hG⟩ | exact ⟨trivial, trivial, hG⟩ | exact ⟨trivial, hG⟩
    · intro L vals W hall hφ hS
      have k0 : vals 0 = .agg #[.int .i64 y0, .int .i64 y1] := hφ 0 (by decide)
      have k1 : vals 1 = .agg #[.int .i64 x0, .int .i64 x1] := hφ 1 (by decide)
      simp only [frOf, Act.put, List.setIfInBounds_toArray, List.set_cons_succ, List.set_cons_zero, k0, k1]
      clear k0 k1 hall hφ hS0
      obtain ⟨v0, d0, u0, rfl, i0⟩ := NF.has hS m0
      obtain ⟨v1, d1, u1, rfl, i1⟩ := NF.has hS m1
      obtain ⟨v2, d2, u2, rfl, i2⟩ := NF.has hS m2
      obtain ⟨v3, d3, u3, rfl, i3⟩ := NF.has hS m3
      dsimp only at d0 d1 d2 d3
      go_wp2_with fail
      exact bodyPost_ret (v := .tuple #[.agg #[.int .i64 u0, .int .i64 u1], .agg #[.int .i64 u2, .int .i64 u3]]) (by simp [results, Tryd.results4, go_sem, d0, d1, d2, d3]) rfl ⟨u0, u1, u2, u3, i0, i1, i2, i3, rfl, hS.1⟩
  · go_wp2_with fail
    refine region_inv3 [(0, 17), (1, 18)]
      (fun j v _ => match j with
        | 0 => Is (.agg #[.int .i64 x0, .int .i64 x1]) v
        | 1 => Is (.agg #[.int .i64 y0, .int .i64 y1]) v
        | _ => True)
      (fun _ W => NF w R F W) TT
      (by kernel_rfl) (by kernel_rfl) (by kernel_rfl) (by kernel_rfl) (by kernel_rfl) rfl hS0 (fun i j v W W' _ h _ => h) ?_ ?_
    · intro i L vals W hi' hφ hS hL hd
      have hi2 : i < 4 := hi'
      clear hi'
      rcases (show i = 0 ∨ i = 1 ∨ i = 2 ∨ i = 3 by omega) with rfl | rfl | rfl | rfl
      · obtain ⟨v0, d0, rfl⟩ := NF.has hS m4
        obtain ⟨v1, d1, rfl⟩ := NF.has hS m5
        dsimp only at d0 d1
        refine wpAt_of rfl rfl ?_
        simp only [frOf, Act.put]
        go_wp2_with fail
        first | exact ⟨trivial, rfl, trivial, hS⟩ | exact ⟨rfl, trivial, hS⟩
      · obtain ⟨v0, d0, rfl⟩ := NF.has hS m6
        obtain ⟨v1, d1, rfl⟩ := NF.has hS m7
        dsimp only at d0 d1
        refine wpAt_of rfl rfl ?_
        simp only [frOf, Act.put]
        go_wp2_with fail
        first | exact ⟨trivial, rfl, trivial, hS⟩ | exact ⟨rfl, trivial, hS⟩
      · have k0 : vals 0 = .agg #[.int .i64 x0, .int .i64 x1] := hφ 0 (hd 0 (by decide))
        obtain ⟨v0, d0, -⟩ := NF.has hS m0
        obtain ⟨v1, d1, -⟩ := NF.has hS m1
        have f0 := NF.free hS m0
        have f1 := NF.free hS m1
        dsimp only at d0 d1 f0 f1
        refine wpAt_none rfl rfl ?_
        simp only [frOf, Act.put]
        go_wp2_with fail
        have hG := NF.set (NF.set hS (Nat.le_refl _) (i := 0) (v := .int .i64 x0) (fun f hf hb _ => hFB _ ⟨_, rfl, by assumption⟩ f hf (.inl hb))) (Nat.le_refl _) (i := 1) (v := .int .i64 x1) (fun f hf hb _ => hFB _ ⟨_, rfl, by assumption⟩ f hf (.inl hb))
        first | exact ⟨trivial, trivial, trivial, hG⟩ | exact ⟨trivial, trivial, hG⟩ | exact ⟨trivial, hG⟩
      · have k1 : vals 1 = .agg #[.int .i64 y0, .int .i64 y1] := hφ 1 (hd 1 (by decide))
        obtain ⟨v0, d0, -⟩ := NF.has hS m2
        obtain ⟨v1, d1, -⟩ := NF.has hS m3
        have f0 := NF.free hS m2
        have f1 := NF.free hS m3
        dsimp only at d0 d1 f0 f1
        refine wpAt_none rfl rfl ?_
        simp only [frOf, Act.put]
        go_wp2_with fail
        have hG := NF.set (NF.set hS (Nat.le_succ _) (i := 0) (v := .int .i64 y0) (fun f hf hb _ => hFB _ ⟨_, rfl, by assumption⟩ f hf (.inr hb))) (Nat.le_succ _) (i := 1) (v := .int .i64 y1) (fun f hf hb _ => hFB _ ⟨_, rfl, by assumption⟩ f hf (.inr hb))
        first | exact ⟨trivial, trivial, trivial, hG⟩ | exact ⟨trivial, trivial, hG⟩ | exact ⟨trivial, hG⟩
    · intro L vals W hall hφ hS
      have k0 : vals 0 = .agg #[.int .i64 x0, .int .i64 x1] := hφ 0 (by decide)
      have k1 : vals 1 = .agg #[.int .i64 y0, .int .i64 y1] := hφ 1 (by decide)
      simp only [frOf, Act.put, List.setIfInBounds_toArray, List.set_cons_succ, List.set_cons_zero, k0, k1]
      clear k0 k1 hall hφ hS0
      obtain ⟨v0, d0, u0, rfl, i0⟩ := NF.has hS m0
      obtain ⟨v1, d1, u1, rfl, i1⟩ := NF.has hS m1
      obtain ⟨v2, d2, u2, rfl, i2⟩ := NF.has hS m2
      obtain ⟨v3, d3, u3, rfl, i3⟩ := NF.has hS m3
      dsimp only at d0 d1 d2 d3
      go_wp2_with fail
      exact bodyPost_ret (v := .tuple #[.agg #[.int .i64 u0, .int .i64 u1], .agg #[.int .i64 u2, .int .i64 u3]]) (by simp [results, Tryd.results4, go_sem, d0, d1, d2, d3]) rfl ⟨u0, u1, u2, u3, i0, i1, i2, i3, rfl, hS.1⟩
set_option maxHeartbeats 2000000 in
theorem owHasT (g : Nat) (n : Int) (j : Nat) (hj : j < 11) (hn : stp j = n) (w : World) (hS : StepsAt g w) :
    Calls Tryd.prog 18 #[.slice (some ⟨g, 0, none⟩) 11 11, .int .i64 n] w fun e w' => e = .returned (.bool true) ∧ Below w.heap.size w w' := by
  go_enter Tryd.func18, Tryd.ntmps18
  go_wp2
  go_loop [5] (fun i => ∃ k : Nat, k ≤ j ∧ i = .int .i64 k) (fun i => 11 - (intOf i).toNat)
  case atStart => exact ⟨0, Nat.zero_le _, rfl⟩
  case round =>
    obtain ⟨k, hk, rfl⟩ := hrel
    have c1 := hS k (by omega)
    have t1 : ((k : Int)).toNat = k := by omega
    have t2 : (0 : Int) ≤ (k : Int) := by omega
    have t3 : (k : Int) < 11 := by omega
    obtain ⟨s, hs⟩ : ∃ s, s = stp k := ⟨_, rfl⟩
    rw [← hs] at c1
    have hsS : Hid (s = stp k) := hs
    have hnS : Hid (stp j = n) := hn
    clear hs hn hS
    by_cases e : s = n
    · subst e
      go_wp2
      go_ret
      exact ⟨rfl, Below.refl _ _⟩
    · have hne : k ≠ j := fun h => e (by rw [hsS.out, h, hnS.out])
      go_wp2
      go_round
      case rel => exact ⟨k + 1, by omega, by go_num⟩
      case measure => simp [intOf]; omega
theorem owStepT (n : Int) (w : World) (h : ∃ j, j < 11 ∧ stp j = n) :
    Calls Tryd.prog 10 #[.int .i64 n] w fun e w' => e = .returned (.bool true) ∧ Below w.heap.size w w' := by
  obtain ⟨j, hj, hn⟩ := h
  have hnS : Hid (stp j = n) := hn
  clear hn
  go_enter Tryd.func10, Tryd.ntmps10
  go_wp2_with fail
  refine (owHasT w.heap.size n j hj hnS.out _ ?_).mono ?_
  · intro j hj
    rcases (show j = 0 ∨ j = 1 ∨ j = 2 ∨ j = 3 ∨ j = 4 ∨ j = 5 ∨ j = 6 ∨ j = 7 ∨ j = 8 ∨ j = 9 ∨ j = 10 by omega) with rfl | rfl | rfl | rfl | rfl | rfl | rfl | rfl | rfl | rfl | rfl <;> simp [stp]
  rintro e w' ⟨rfl, hb⟩
  go_wp2_with fail
  go_ret
  exact ⟨rfl, ((Below.refl w.heap.size w).alloc (Nat.le_refl _) _).trans (hb.mono (by simp))⟩

set_option maxRecDepth 10000 in
set_option maxHeartbeats 60000000 in
theorem walk (a0 : Option Addr) (len0 cap0 : Nat) (z0 : Nat → Int) (w : World) (hz0 : ∀ i, 0 ≤ z0 i ∧ z0 i ≤ 255) (r0 : Bytes w a0 len0 cap0 z0) (hvar : Lib.TabIs Tryd.prog w "loop.example/outwork/impl.wideSteps" .i64 [-32768, -1000, -100, -10, -1, 0, 1, 10, 100, 1000, 32767]) :
    Calls Tryd.prog 3 #[.slice a0 len0 cap0] w fun e w' => e = .returned (.bool true) ∧ Below w.heap.size w w' := by
  by_cases hl0 : len0 ≤ 1048576
  case neg =>
    have hi : (1048576 : Int) < (len0 : Int) := by omega
    go_enter Tryd.func3, Tryd.ntmps3
    go_wp2_with fail
    go_ret
    exact ⟨rfl, Below.refl _ _⟩
  have hi0 : ¬ (1048576 : Int) < (len0 : Int) := by omega
  go_enter Tryd.func3, Tryd.ntmps3
  go_wp2_with fail
  refine (drawWide a0 len0 cap0 z0 _ hz0 hl0 r0).mono ?_
  rintro e w1 ⟨x0, x1, y0, y1, hx0, hx1, hy0, hy1, rfl, b1⟩
  have H3 : HeldL w [(w1.heap.size + 1, [Value.int .i64 y0, .int .i64 y1]), (w1.heap.size, [Value.int .i64 x0, .int .i64 x1])] ((w1.alloc (.cells #[.int .i64 x0, .int .i64 x1] 24)).alloc (.cells #[.int .i64 y0, .int .i64 y1] 24)) := by
    have e : w1.heap.size + 1 = (w1.alloc (.cells #[.int .i64 x0, .int .i64 x1] 24)).heap.size := by simp
    rw [e]
    exact HeldL.new (HeldL.new ((HeldL.nil w).next b1))
  have a0' := H3.cell (e := (w1.heap.size, [Value.int .i64 x0, .int .i64 x1])) (by simp) (i := 0) rfl
  have a1' := H3.cell (e := (w1.heap.size, [Value.int .i64 x0, .int .i64 x1])) (by simp) (i := 1) rfl
  have a2' := H3.cell (e := (w1.heap.size + 1, [Value.int .i64 y0, .int .i64 y1])) (by simp) (i := 0) rfl
  have a3' := H3.cell (e := (w1.heap.size + 1, [Value.int .i64 y0, .int .i64 y1])) (by simp) (i := 1) rfl
  dsimp only at a0' a1' a2' a3'
  clear r0 b1
  obtain ⟨ml, hl0'⟩ : ∃ l, wideLo x0 x1 y0 y1 = l := ⟨_, rfl⟩
  obtain ⟨mh, hh0'⟩ : ∃ l, wideHi x0 x1 y0 y1 = l := ⟨_, rfl⟩
  have hml : Hid (wideLo x0 x1 y0 y1 = ml) := hl0'
  have hmh : Hid (wideHi x0 x1 y0 y1 = mh) := hh0'
  clear hl0' hh0'
  go_wp2_with fail
  refine (wideI_is _ _ _ _ ml mh _ (steps_below hvar H3.below) hml.out hmh.out).mono ?_
  rintro e w2 ⟨rfl, b3⟩
  have H6 := HeldL.new (t := 24) (x := .int .i64 ml) (y := .int .i64 mh) (H3.next b3)
  clear a0' a1' a2' a3' b3 H3
  obtain ⟨Lb, hLb⟩ : ∃ Lb, Lb = [(w2.heap.size, [Value.int .i64 ml, .int .i64 mh]), (w1.heap.size + 1, [Value.int .i64 y0, .int .i64 y1]), (w1.heap.size, [Value.int .i64 x0, .int .i64 x1])] := ⟨_, rfl⟩
  have mA : (w1.heap.size, [Value.int .i64 x0, .int .i64 x1]) ∈ Lb := by rw [hLb]; simp
  have mB : (w1.heap.size + 1, [Value.int .i64 y0, .int .i64 y1]) ∈ Lb := by rw [hLb]; simp
  have mX : (w2.heap.size, [Value.int .i64 ml, .int .i64 mh]) ∈ Lb := by rw [hLb]; simp
  rw [← hLb] at H6
  clear hLb
  have hS0 : HeldL w Lb (w2.alloc (.cells #[.int .i64 ml, .int .i64 mh] 24)).drew := H6.drew
  clear H6
  go_wp2_with fail
  refine region_inv3 [(0, 17), (1, 18), (2, 19), (3, 20), (4, 21)]
    (fun j v _ => match j with
      | 0 => Is (.agg #[.int .i64 ml, .int .i64 mh]) v
      | 1 => Is (.agg #[.int .i64 x0, .int .i64 x1]) v
      | 2 => Is (.agg #[.int .i64 y0, .int .i64 y1]) v
      | 3 => Is (.agg #[.int .i64 ml, .int .i64 mh]) v
      | 4 => Is (.bool false) v
      | _ => True)
    (fun _ W => HeldL w Lb W) TT
    (by kernel_rfl) (by kernel_rfl) (by kernel_rfl) (by kernel_rfl) (by kernel_rfl) rfl hS0 (fun i j v W W' _ h _ => h) ?_ ?_
  · intro i L vals W hi' hφ hS hL hd
    have hi2 : i < 5 := hi'
    clear hi'
    rcases (show i = 0 ∨ i = 1 ∨ i = 2 ∨ i = 3 ∨ i = 4 by omega) with rfl | rfl | rfl | rfl | rfl
    · have c0 : W.cell? ⟨w2.heap.size, 0, none⟩ = some (.int .i64 ml) := HeldL.cell hS mX (i := 0) rfl
      have c1 : W.cell? ⟨w2.heap.size, 1, none⟩ = some (.int .i64 mh) := HeldL.cell hS mX (i := 1) rfl
      refine wpAt_of rfl rfl ?_
      simp only [frOf, Act.put]
      go_wp2_with fail
      first | exact ⟨trivial, rfl, trivial, hS⟩ | exact ⟨rfl, trivial, hS⟩
    · have c0 : W.cell? ⟨w1.heap.size, 0, none⟩ = some (.int .i64 x0) := HeldL.cell hS mA (i := 0) rfl
      have c1 : W.cell? ⟨w1.heap.size, 1, none⟩ = some (.int .i64 x1) := HeldL.cell hS mA (i := 1) rfl
      refine wpAt_of rfl rfl ?_
      simp only [frOf, Act.put]
      go_wp2_with fail
      first | exact ⟨trivial, rfl, trivial, hS⟩ | exact ⟨rfl, trivial, hS⟩
    · have c0 : W.cell? ⟨w1.heap.size + 1, 0, none⟩ = some (.int .i64 y0) := HeldL.cell hS mB (i := 0) rfl
      have c1 : W.cell? ⟨w1.heap.size + 1, 1, none⟩ = some (.int .i64 y1) := HeldL.cell hS mB (i := 1) rfl
      refine wpAt_of rfl rfl ?_
      simp only [frOf, Act.put]
      go_wp2_with fail
      first | exact ⟨trivial, rfl, trivial, hS⟩ | exact ⟨rfl, trivial, hS⟩
    · have k1 : vals 1 = .agg #[.int .i64 x0, .int .i64 x1] := hφ 1 (hd 1 (by decide))
      have k2 : vals 2 = .agg #[.int .i64 y0, .int .i64 y1] := hφ 2 (hd 2 (by decide))
      refine wpAt_of rfl rfl ?_
      simp only [frOf, Act.put]
      go_wp2_with fail
      refine (wideS_is _ _ _ _ ml mh _ hml.out hmh.out).mono ?_
      rintro e W' ⟨rfl, hb⟩
      go_wp2_with fail
      first | exact ⟨trivial, rfl, trivial, HeldL.next hb hS⟩ | exact ⟨rfl, trivial, HeldL.next hb hS⟩
    · have k0 : vals 0 = .agg #[.int .i64 ml, .int .i64 mh] := hφ 0 (hd 0 (by decide))
      have k3 : vals 3 = .agg #[.int .i64 ml, .int .i64 mh] := hφ 3 (hd 3 (by decide))
      refine wpAt_of rfl rfl ?_
      simp only [frOf, Act.put]
      go_wp2_with fail
      first | exact ⟨trivial, rfl, trivial, hS⟩ | exact ⟨rfl, trivial, hS⟩
  · intro L vals W hall hφ hS
    have k0 : vals 0 = .agg #[.int .i64 ml, .int .i64 mh] := hφ 0 (by decide)
    have k1 : vals 1 = .agg #[.int .i64 x0, .int .i64 x1] := hφ 1 (by decide)
    have k2 : vals 2 = .agg #[.int .i64 y0, .int .i64 y1] := hφ 2 (by decide)
    have k3 : vals 3 = .agg #[.int .i64 ml, .int .i64 mh] := hφ 3 (by decide)
    have k4 : vals 4 = .bool false := hφ 4 (by decide)
    simp only [frOf, Act.put, List.setIfInBounds_toArray, List.set_cons_succ, List.set_cons_zero, k0, k1, k2, k3, k4]
    clear k0 k1 k2 k3 k4
    clear hall hφ hS0
    have a0' : W.cell? ⟨w1.heap.size, 0, none⟩ = some (.int .i64 x0) := hS.cell mA (i := 0) rfl
    have a1' : W.cell? ⟨w1.heap.size, 1, none⟩ = some (.int .i64 x1) := hS.cell mA (i := 1) rfl
    go_wp2_with fail
    refine (itvOkS _ _ _).mono ?_
    rintro e w5 ⟨rfl, b5⟩
    have H8 := hS.next b5
    clear a0' a1' b5 hS
    have c0 : w5.cell? ⟨w2.heap.size, 0, none⟩ = some (.int .i64 ml) := H8.cell mX (i := 0) rfl
    have c1 : w5.cell? ⟨w2.heap.size, 1, none⟩ = some (.int .i64 mh) := H8.cell mX (i := 1) rfl
    have a2' : w5.cell? ⟨w1.heap.size + 1, 0, none⟩ = some (.int .i64 y0) := H8.cell mB (i := 0) rfl
    have a3' : w5.cell? ⟨w1.heap.size + 1, 1, none⟩ = some (.int .i64 y1) := H8.cell mB (i := 1) rfl
    cases oka : itvOk x0 x1
    · have jz : ml = 0 ∧ mh = 0 := by rw [← hml.out, ← hmh.out]; simp [wideLo, wideHi, two, oka]
      obtain ⟨rfl, rfl⟩ := jz
      go_wp2_with (first | (go_at_call 8; refine (owOkT _).mono ?_; rintro e w' ⟨rfl, rfl⟩))
      go_ret
      exact ⟨rfl, H8.below⟩
    go_wp2_with fail
    refine (itvOkS _ _ _).mono ?_
    rintro e w6 ⟨rfl, b6⟩
    have H9 := H8.next b6
    clear a2' a3' b6 H8 c0 c1
    have c0 : w6.cell? ⟨w2.heap.size, 0, none⟩ = some (.int .i64 ml) := H9.cell mX (i := 0) rfl
    have c1 : w6.cell? ⟨w2.heap.size, 1, none⟩ = some (.int .i64 mh) := H9.cell mX (i := 1) rfl
    cases okb : itvOk y0 y1
    · have jz : ml = 0 ∧ mh = 0 := by rw [← hml.out, ← hmh.out]; simp [wideLo, wideHi, two, okb]
      obtain ⟨rfl, rfl⟩ := jz
      go_wp2_with (first | (go_at_call 8; refine (owOkT _).mono ?_; rintro e w' ⟨rfl, rfl⟩))
      go_ret
      exact ⟨rfl, H9.below⟩
    clear c0 c1
    obtain ⟨iA', iB'⟩ := wide_has oka okb hml.out hmh.out
    obtain ⟨eL, eH⟩ := wide_ends oka okb
    rw [hml.out] at eL
    rw [hmh.out] at eH
    have iA : Hid (itvIn x0 x1 ml mh = true) := iA'
    have iB : Hid (itvIn y0 y1 ml mh = true) := iB'
    have gA0 : Hid (wideLo ml mh x0 x1 = ml) := (wide_rest iA').1
    have gA1 : Hid (wideHi ml mh x0 x1 = mh) := (wide_rest iA').2
    have gB0 : Hid (wideLo ml mh y0 y1 = ml) := (wide_rest iB').1
    have gB1 : Hid (wideHi ml mh y0 y1 = mh) := (wide_rest iB').2
    have gC0 : Hid (wideLo x0 x1 x0 x1 = x0) := (wide_rest (in_mk oka oka (by omega))).1
    have gC1 : Hid (wideHi x0 x1 x0 x1 = x1) := (wide_rest (in_mk oka oka (by omega))).2
    have sL : Hid (ml = x0 ∨ ml ≠ x0 ∧ ∃ j, j < 11 ∧ stp j = ml) := by
      rcases eL with e | e
      · exact .inl e.1
      · exact .inr ⟨e.1, e.2.2.2⟩
    have sH : Hid (mh = x1 ∨ mh ≠ x1 ∧ ∃ j, j < 11 ∧ stp j = mh) := by
      rcases eH with e | e
      · exact .inl e.1
      · exact .inr ⟨e.1, e.2.2.2⟩
    have hS0 : HeldL w Lb w6.drew := H9.drew
    clear iA' iB' eL eH H9 oka okb hml hmh hx0 hx1 hy0 hy1 hz0 hl0 hi0
    go_wp2_with fail
    refine region_inv3 [(0, 36), (1, 37), (2, 38), (3, 39), (4, 40), (5, 41), (6, 42), (7, 43), (8, 44), (9, 45), (10, 46), (11, 47), (12, 48), (13, 49), (14, 50), (15, 51), (16, 52), (17, 53), (18, 54), (19, 55), (20, 56), (21, 57), (22, 58), (23, 59)]
      (fun j v _ => match j with
        | 0 => Is (.agg #[.int .i64 x0, .int .i64 x1]) v
        | 1 => Is (.agg #[.int .i64 ml, .int .i64 mh]) v
        | 2 => Is (.bool true) v
        | 3 => Is (.bool false) v
        | 4 => Is (.bool false) v
        | 5 => Is (.agg #[.int .i64 y0, .int .i64 y1]) v
        | 6 => Is (.agg #[.int .i64 ml, .int .i64 mh]) v
        | 7 => Is (.bool true) v
        | 8 => Is (.bool false) v
        | 9 => Is (.bool false) v
        | 10 => Is (.bool false) v
        | 11 => Is (.agg #[.int .i64 ml, .int .i64 mh]) v
        | 12 => Is (.agg #[.int .i64 y0, .int .i64 y1]) v
        | 13 => Is (.agg #[.int .i64 ml, .int .i64 mh]) v
        | 14 => Is (.agg #[.int .i64 ml, .int .i64 mh]) v
        | 15 => Is (.bool false) v
        | 16 => Is (.bool false) v
        | 17 => Is (.bool false) v
        | 18 => Is (.agg #[.int .i64 ml, .int .i64 mh]) v
        | 19 => Is (.agg #[.int .i64 x0, .int .i64 x1]) v
        | 20 => Is (.agg #[.int .i64 ml, .int .i64 mh]) v
        | 21 => Is (.agg #[.int .i64 ml, .int .i64 mh]) v
        | 22 => Is (.bool false) v
        | 23 => Is (.bool false) v
        | _ => True)
      (fun _ W => HeldL w Lb W) TT
      (by kernel_rfl) (by kernel_rfl) (by kernel_rfl) (by kernel_rfl) (by kernel_rfl) rfl hS0 (fun i j v W W' _ h _ => h) ?_ ?_
    · intro i L vals W hi' hφ hS hL hd
      have hi2 : i < 24 := hi'
      clear hi'
      rcases (show i = 0 ∨ i = 1 ∨ i = 2 ∨ i = 3 ∨ i = 4 ∨ i = 5 ∨ i = 6 ∨ i = 7 ∨ i = 8 ∨ i = 9 ∨ i = 10 ∨ i = 11 ∨ i = 12 ∨ i = 13 ∨ i = 14 ∨ i = 15 ∨ i = 16 ∨ i = 17 ∨ i = 18 ∨ i = 19 ∨ i = 20 ∨ i = 21 ∨ i = 22 ∨ i = 23 by omega) with rfl | rfl | rfl | rfl | rfl | rfl | rfl | rfl | rfl | rfl | rfl | rfl | rfl | rfl | rfl | rfl | rfl | rfl | rfl | rfl | rfl | rfl | rfl | rfl
      · have c0 : W.cell? ⟨w1.heap.size, 0, none⟩ = some (.int .i64 x0) := HeldL.cell hS mA (i := 0) rfl
        have c1 : W.cell? ⟨w1.heap.size, 1, none⟩ = some (.int .i64 x1) := HeldL.cell hS mA (i := 1) rfl
        refine wpAt_of rfl rfl ?_
        simp only [frOf, Act.put]
        go_wp2_with fail
        first | exact ⟨trivial, rfl, trivial, hS⟩ | exact ⟨rfl, trivial, hS⟩
      · have c0 : W.cell? ⟨w2.heap.size, 0, none⟩ = some (.int .i64 ml) := HeldL.cell hS mX (i := 0) rfl
        have c1 : W.cell? ⟨w2.heap.size, 1, none⟩ = some (.int .i64 mh) := HeldL.cell hS mX (i := 1) rfl
        refine wpAt_of rfl rfl ?_
        simp only [frOf, Act.put]
        go_wp2_with fail
        first | exact ⟨trivial, rfl, trivial, hS⟩ | exact ⟨rfl, trivial, hS⟩
      · have k0 : vals 0 = .agg #[.int .i64 x0, .int .i64 x1] := hφ 0 (hd 0 (by decide))
        have k1 : vals 1 = .agg #[.int .i64 ml, .int .i64 mh] := hφ 1 (hd 1 (by decide))
        refine wpAt_of rfl rfl ?_
        simp only [frOf, Act.put]
        go_wp2_with fail
        refine (inI_is _ _ _ _ true _ (by first | exact iA.out | exact iB.out)).mono ?_
        rintro e W' ⟨rfl, hb⟩
        go_wp2_with fail
        first | exact ⟨trivial, rfl, trivial, HeldL.next hb hS⟩ | exact ⟨rfl, trivial, HeldL.next hb hS⟩
      · have k2 : vals 2 = .bool true := hφ 2 (hd 2 (by decide))
        refine wpAt_of rfl rfl ?_
        simp only [frOf, Act.put]
        go_wp2_with fail
        first | exact ⟨trivial, rfl, trivial, hS⟩ | exact ⟨rfl, trivial, hS⟩
      · have k3 : vals 3 = .bool false := hφ 3 (hd 3 (by decide))
        refine wpAt_of rfl rfl ?_
        simp only [frOf, Act.put]
        go_wp2_with fail
        first | exact ⟨trivial, rfl, trivial, hS⟩ | exact ⟨rfl, trivial, hS⟩
      · have k4 : vals 4 = .bool false := hφ 4 (hd 4 (by decide))
        have c0 : W.cell? ⟨w1.heap.size + 1, 0, none⟩ = some (.int .i64 y0) := HeldL.cell hS mB (i := 0) rfl
        have c1 : W.cell? ⟨w1.heap.size + 1, 1, none⟩ = some (.int .i64 y1) := HeldL.cell hS mB (i := 1) rfl
        simp only [wpAt, List.getElem?_toArray, List.getElem?_cons_succ, List.getElem?_cons_zero, slotOf, frOf, Act.put]
        go_wp2_with fail
        first | exact ⟨trivial, rfl, trivial, hS⟩ | exact ⟨rfl, trivial, hS⟩
      · have k4 : vals 4 = .bool false := hφ 4 (hd 4 (by decide))
        have c0 : W.cell? ⟨w2.heap.size, 0, none⟩ = some (.int .i64 ml) := HeldL.cell hS mX (i := 0) rfl
        have c1 : W.cell? ⟨w2.heap.size, 1, none⟩ = some (.int .i64 mh) := HeldL.cell hS mX (i := 1) rfl
        simp only [wpAt, List.getElem?_toArray, List.getElem?_cons_succ, List.getElem?_cons_zero, slotOf, frOf, Act.put]
        go_wp2_with fail
        first | exact ⟨trivial, rfl, trivial, hS⟩ | exact ⟨rfl, trivial, hS⟩
      · have k4 : vals 4 = .bool false := hφ 4 (hd 4 (by decide))
        have k5 : vals 5 = .agg #[.int .i64 y0, .int .i64 y1] := hφ 5 (hd 5 (by decide))
        have k6 : vals 6 = .agg #[.int .i64 ml, .int .i64 mh] := hφ 6 (hd 6 (by decide))
        simp only [wpAt, List.getElem?_toArray, List.getElem?_cons_succ, List.getElem?_cons_zero, slotOf, frOf, Act.put]
        go_wp2_with fail
        refine (inI_is _ _ _ _ true _ (by first | exact iA.out | exact iB.out)).mono ?_
        rintro e W' ⟨rfl, hb⟩
        go_wp2_with fail
        first | exact ⟨trivial, rfl, trivial, HeldL.next hb hS⟩ | exact ⟨rfl, trivial, HeldL.next hb hS⟩
      · have k4 : vals 4 = .bool false := hφ 4 (hd 4 (by decide))
        have k7 : vals 7 = .bool true := hφ 7 (hd 7 (by decide))
        simp only [wpAt, List.getElem?_toArray, List.getElem?_cons_succ, List.getElem?_cons_zero, slotOf, frOf, Act.put]
        go_wp2_with fail
        first | exact ⟨trivial, rfl, trivial, hS⟩ | exact ⟨rfl, trivial, hS⟩
      · have k4 : vals 4 = .bool false := hφ 4 (hd 4 (by decide))
        have k8 : vals 8 = .bool false := hφ 8 (hd 8 (by decide))
        refine wpAt_of rfl rfl ?_
        simp only [frOf, Act.put]
        go_wp2_with fail
        first | exact ⟨trivial, rfl, trivial, hS⟩ | exact ⟨rfl, trivial, hS⟩
      · have k9 : vals 9 = .bool false := hφ 9 (hd 9 (by decide))
        refine wpAt_of rfl rfl ?_
        simp only [frOf, Act.put]
        go_wp2_with fail
        first | exact ⟨trivial, rfl, trivial, hS⟩ | exact ⟨rfl, trivial, hS⟩
      · have k10 : vals 10 = .bool false := hφ 10 (hd 10 (by decide))
        have c0 : W.cell? ⟨w2.heap.size, 0, none⟩ = some (.int .i64 ml) := HeldL.cell hS mX (i := 0) rfl
        have c1 : W.cell? ⟨w2.heap.size, 1, none⟩ = some (.int .i64 mh) := HeldL.cell hS mX (i := 1) rfl
        simp only [wpAt, List.getElem?_toArray, List.getElem?_cons_succ, List.getElem?_cons_zero, slotOf, frOf, Act.put]
        go_wp2_with fail
        first | exact ⟨trivial, rfl, trivial, hS⟩ | exact ⟨rfl, trivial, hS⟩
      · have k10 : vals 10 = .bool false := hφ 10 (hd 10 (by decide))
        have c0 : W.cell? ⟨w1.heap.size + 1, 0, none⟩ = some (.int .i64 y0) := HeldL.cell hS mB (i := 0) rfl
        have c1 : W.cell? ⟨w1.heap.size + 1, 1, none⟩ = some (.int .i64 y1) := HeldL.cell hS mB (i := 1) rfl
        simp only [wpAt, List.getElem?_toArray, List.getElem?_cons_succ, List.getElem?_cons_zero, slotOf, frOf, Act.put]
        go_wp2_with fail
        first | exact ⟨trivial, rfl, trivial, hS⟩ | exact ⟨rfl, trivial, hS⟩
      · have k10 : vals 10 = .bool false := hφ 10 (hd 10 (by decide))
        have k11 : vals 11 = .agg #[.int .i64 ml, .int .i64 mh] := hφ 11 (hd 11 (by decide))
        have k12 : vals 12 = .agg #[.int .i64 y0, .int .i64 y1] := hφ 12 (hd 12 (by decide))
        simp only [wpAt, List.getElem?_toArray, List.getElem?_cons_succ, List.getElem?_cons_zero, slotOf, frOf, Act.put]
        go_wp2_with fail
        refine (wideI_is _ _ _ _ _ _ _ (steps_below hvar (HeldL.below hS)) (by first | exact gB0.out | exact gA0.out | exact gC0.out) (by first | exact gB1.out | exact gA1.out | exact gC1.out)).mono ?_
        rintro e W' ⟨rfl, hb⟩
        go_wp2_with fail
        first | exact ⟨trivial, rfl, trivial, HeldL.next hb hS⟩ | exact ⟨rfl, trivial, HeldL.next hb hS⟩
      · have k10 : vals 10 = .bool false := hφ 10 (hd 10 (by decide))
        have c0 : W.cell? ⟨w2.heap.size, 0, none⟩ = some (.int .i64 ml) := HeldL.cell hS mX (i := 0) rfl
        have c1 : W.cell? ⟨w2.heap.size, 1, none⟩ = some (.int .i64 mh) := HeldL.cell hS mX (i := 1) rfl
        simp only [wpAt, List.getElem?_toArray, List.getElem?_cons_succ, List.getElem?_cons_zero, slotOf, frOf, Act.put]
        go_wp2_with fail
        first | exact ⟨trivial, rfl, trivial, hS⟩ | exact ⟨rfl, trivial, hS⟩
      · have k10 : vals 10 = .bool false := hφ 10 (hd 10 (by decide))
        have k13 : vals 13 = .agg #[.int .i64 ml, .int .i64 mh] := hφ 13 (hd 13 (by decide))
        have k14 : vals 14 = .agg #[.int .i64 ml, .int .i64 mh] := hφ 14 (hd 14 (by decide))
        simp only [wpAt, List.getElem?_toArray, List.getElem?_cons_succ, List.getElem?_cons_zero, slotOf, frOf, Act.put]
        go_wp2_with fail
        first | exact ⟨trivial, rfl, trivial, hS⟩ | exact ⟨rfl, trivial, hS⟩
      · have k10 : vals 10 = .bool false := hφ 10 (hd 10 (by decide))
        have k15 : vals 15 = .bool false := hφ 15 (hd 15 (by decide))
        refine wpAt_of rfl rfl ?_
        simp only [frOf, Act.put]
        go_wp2_with fail
        first | exact ⟨trivial, rfl, trivial, hS⟩ | exact ⟨rfl, trivial, hS⟩
      · have k16 : vals 16 = .bool false := hφ 16 (hd 16 (by decide))
        refine wpAt_of rfl rfl ?_
        simp only [frOf, Act.put]
        go_wp2_with fail
        first | exact ⟨trivial, rfl, trivial, hS⟩ | exact ⟨rfl, trivial, hS⟩
      · have k17 : vals 17 = .bool false := hφ 17 (hd 17 (by decide))
        have c0 : W.cell? ⟨w2.heap.size, 0, none⟩ = some (.int .i64 ml) := HeldL.cell hS mX (i := 0) rfl
        have c1 : W.cell? ⟨w2.heap.size, 1, none⟩ = some (.int .i64 mh) := HeldL.cell hS mX (i := 1) rfl
        simp only [wpAt, List.getElem?_toArray, List.getElem?_cons_succ, List.getElem?_cons_zero, slotOf, frOf, Act.put]
        go_wp2_with fail
        first | exact ⟨trivial, rfl, trivial, hS⟩ | exact ⟨rfl, trivial, hS⟩
      · have k17 : vals 17 = .bool false := hφ 17 (hd 17 (by decide))
        have c0 : W.cell? ⟨w1.heap.size, 0, none⟩ = some (.int .i64 x0) := HeldL.cell hS mA (i := 0) rfl
        have c1 : W.cell? ⟨w1.heap.size, 1, none⟩ = some (.int .i64 x1) := HeldL.cell hS mA (i := 1) rfl
        simp only [wpAt, List.getElem?_toArray, List.getElem?_cons_succ, List.getElem?_cons_zero, slotOf, frOf, Act.put]
        go_wp2_with fail
        first | exact ⟨trivial, rfl, trivial, hS⟩ | exact ⟨rfl, trivial, hS⟩
      · have k17 : vals 17 = .bool false := hφ 17 (hd 17 (by decide))
        have k18 : vals 18 = .agg #[.int .i64 ml, .int .i64 mh] := hφ 18 (hd 18 (by decide))
        have k19 : vals 19 = .agg #[.int .i64 x0, .int .i64 x1] := hφ 19 (hd 19 (by decide))
        simp only [wpAt, List.getElem?_toArray, List.getElem?_cons_succ, List.getElem?_cons_zero, slotOf, frOf, Act.put]
        go_wp2_with fail
        refine (wideI_is _ _ _ _ _ _ _ (steps_below hvar (HeldL.below hS)) (by first | exact gB0.out | exact gA0.out | exact gC0.out) (by first | exact gB1.out | exact gA1.out | exact gC1.out)).mono ?_
        rintro e W' ⟨rfl, hb⟩
        go_wp2_with fail
        first | exact ⟨trivial, rfl, trivial, HeldL.next hb hS⟩ | exact ⟨rfl, trivial, HeldL.next hb hS⟩
      · have k17 : vals 17 = .bool false := hφ 17 (hd 17 (by decide))
        have c0 : W.cell? ⟨w2.heap.size, 0, none⟩ = some (.int .i64 ml) := HeldL.cell hS mX (i := 0) rfl
        have c1 : W.cell? ⟨w2.heap.size, 1, none⟩ = some (.int .i64 mh) := HeldL.cell hS mX (i := 1) rfl
        simp only [wpAt, List.getElem?_toArray, List.getElem?_cons_succ, List.getElem?_cons_zero, slotOf, frOf, Act.put]
        go_wp2_with fail
        first | exact ⟨trivial, rfl, trivial, hS⟩ | exact ⟨rfl, trivial, hS⟩
      · have k17 : vals 17 = .bool false := hφ 17 (hd 17 (by decide))
        have k20 : vals 20 = .agg #[.int .i64 ml, .int .i64 mh] := hφ 20 (hd 20 (by decide))
        have k21 : vals 21 = .agg #[.int .i64 ml, .int .i64 mh] := hφ 21 (hd 21 (by decide))
        simp only [wpAt, List.getElem?_toArray, List.getElem?_cons_succ, List.getElem?_cons_zero, slotOf, frOf, Act.put]
        go_wp2_with fail
        first | exact ⟨trivial, rfl, trivial, hS⟩ | exact ⟨rfl, trivial, hS⟩
      · have k17 : vals 17 = .bool false := hφ 17 (hd 17 (by decide))
        have k22 : vals 22 = .bool false := hφ 22 (hd 22 (by decide))
        refine wpAt_of rfl rfl ?_
        simp only [frOf, Act.put]
        go_wp2_with fail
        first | exact ⟨trivial, rfl, trivial, hS⟩ | exact ⟨rfl, trivial, hS⟩
    · intro L vals W hall hφ hS
      have k0 : vals 0 = .agg #[.int .i64 x0, .int .i64 x1] := hφ 0 (by decide)
      have k1 : vals 1 = .agg #[.int .i64 ml, .int .i64 mh] := hφ 1 (by decide)
      have k2 : vals 2 = .bool true := hφ 2 (by decide)
      have k3 : vals 3 = .bool false := hφ 3 (by decide)
      have k4 : vals 4 = .bool false := hφ 4 (by decide)
      have k5 : vals 5 = .agg #[.int .i64 y0, .int .i64 y1] := hφ 5 (by decide)
      have k6 : vals 6 = .agg #[.int .i64 ml, .int .i64 mh] := hφ 6 (by decide)
      have k7 : vals 7 = .bool true := hφ 7 (by decide)
      have k8 : vals 8 = .bool false := hφ 8 (by decide)
      have k9 : vals 9 = .bool false := hφ 9 (by decide)
      have k10 : vals 10 = .bool false := hφ 10 (by decide)
      have k11 : vals 11 = .agg #[.int .i64 ml, .int .i64 mh] := hφ 11 (by decide)
      have k12 : vals 12 = .agg #[.int .i64 y0, .int .i64 y1] := hφ 12 (by decide)
      have k13 : vals 13 = .agg #[.int .i64 ml, .int .i64 mh] := hφ 13 (by decide)
      have k14 : vals 14 = .agg #[.int .i64 ml, .int .i64 mh] := hφ 14 (by decide)
      have k15 : vals 15 = .bool false := hφ 15 (by decide)
      have k16 : vals 16 = .bool false := hφ 16 (by decide)
      have k17 : vals 17 = .bool false := hφ 17 (by decide)
      have k18 : vals 18 = .agg #[.int .i64 ml, .int .i64 mh] := hφ 18 (by decide)
      have k19 : vals 19 = .agg #[.int .i64 x0, .int .i64 x1] := hφ 19 (by decide)
      have k20 : vals 20 = .agg #[.int .i64 ml, .int .i64 mh] := hφ 20 (by decide)
      have k21 : vals 21 = .agg #[.int .i64 ml, .int .i64 mh] := hφ 21 (by decide)
      have k22 : vals 22 = .bool false := hφ 22 (by decide)
      have k23 : vals 23 = .bool false := hφ 23 (by decide)
      simp only [frOf, Act.put, List.setIfInBounds_toArray, List.set_cons_succ, List.set_cons_zero, k0, k1, k2, k3, k4, k5, k6, k7, k8, k9, k10, k11, k12, k13, k14, k15, k16, k17, k18, k19, k20, k21, k22, k23]
      clear k0 k1 k2 k3 k4 k5 k6 k7 k8 k9 k10 k11 k12 k13 k14 k15 k16 k17 k18 k19 k20 k21 k22 k23
      clear hall hφ hS0
      rcases sL.out with eL | ⟨eL, sL'⟩
      · clear sL
        rcases sH.out with eH | ⟨eH, sH'⟩
        · clear sH
          have eL := eL.symm
          have eH := eH.symm
          subst eL eH
          have hS0 : HeldL w Lb W.drew := hS.drew
          clear hS
          go_wp2_with fail
          refine region_inv3 [(0, 60), (1, 61), (2, 62), (3, 63), (4, 64), (5, 65), (6, 66), (7, 67), (8, 68), (9, 69), (10, 70), (11, 71), (12, 72), (13, 73), (14, 74), (15, 75), (16, 76), (17, 77), (18, 78), (19, 79), (20, 80), (21, 81), (22, 82), (23, 83), (24, 84), (25, 85), (26, 86), (27, 87), (28, 88), (29, 2)]
            (fun j v _ => match j with
              | 0 => Is (.pointer (some ⟨w2.heap.size, 0, none⟩)) v
              | 1 => Is (.int .i64 x0) v
              | 2 => Is (.pointer (some ⟨w1.heap.size, 0, none⟩)) v
              | 3 => Is (.int .i64 x0) v
              | 4 => Is (.bool true) v
              | 5 => Is (.bool true) v
              | 6 => Is (undef) v
              | 7 => Is (undef) v
              | 8 => Is (undef) v
              | 9 => Is (.bool true) v
              | 10 => Is (.bool true) v
              | 11 => Is (.pointer (some ⟨w2.heap.size, 1, none⟩)) v
              | 12 => Is (.int .i64 x1) v
              | 13 => Is (.pointer (some ⟨w1.heap.size, 1, none⟩)) v
              | 14 => Is (.int .i64 x1) v
              | 15 => Is (.bool true) v
              | 16 => Is (.bool true) v
              | 17 => Is (undef) v
              | 18 => Is (undef) v
              | 19 => Is (undef) v
              | 20 => Is (.bool true) v
              | 21 => Is (.bool true) v
              | 22 => Is (.bool true) v
              | 23 => Is (.agg #[.int .i64 x0, .int .i64 x1]) v
              | 24 => Is (.agg #[.int .i64 x0, .int .i64 x1]) v
              | 25 => Is (.agg #[.int .i64 x0, .int .i64 x1]) v
              | 26 => Is (.agg #[.int .i64 x0, .int .i64 x1]) v
              | 27 => Is (.bool true) v
              | 28 => Is (.bool true) v
              | 29 => Is (.bool true) v
              | _ => True)
            (fun _ W => HeldL w Lb W) TT
            (by kernel_rfl) (by kernel_rfl) (by kernel_rfl) (by kernel_rfl) (by kernel_rfl) rfl hS0 (fun i j v W W' _ h _ => h) ?_ ?_
          · intro i L vals W hi' hφ hS hL hd
            have hi2 : i < 30 := hi'
            clear hi'
            rcases (show i = 0 ∨ i = 1 ∨ i = 2 ∨ i = 3 ∨ i = 4 ∨ i = 5 ∨ i = 6 ∨ i = 7 ∨ i = 8 ∨ i = 9 ∨ i = 10 ∨ i = 11 ∨ i = 12 ∨ i = 13 ∨ i = 14 ∨ i = 15 ∨ i = 16 ∨ i = 17 ∨ i = 18 ∨ i = 19 ∨ i = 20 ∨ i = 21 ∨ i = 22 ∨ i = 23 ∨ i = 24 ∨ i = 25 ∨ i = 26 ∨ i = 27 ∨ i = 28 ∨ i = 29 by omega) with rfl | rfl | rfl | rfl | rfl | rfl | rfl | rfl | rfl | rfl | rfl | rfl | rfl | rfl | rfl | rfl | rfl | rfl | rfl | rfl | rfl | rfl | rfl | rfl | rfl | rfl | rfl | rfl | rfl | rfl
            · refine wpAt_of rfl rfl ?_
              simp only [frOf, Act.put]
              go_wp2_with fail
              first | exact ⟨trivial, rfl, trivial, hS⟩ | exact ⟨rfl, trivial, hS⟩
            · have k0 : vals 0 = .pointer (some ⟨w2.heap.size, 0, none⟩) := hφ 0 (hd 0 (by decide))
              have c0 : W.cell? ⟨w2.heap.size, 0, none⟩ = some (.int .i64 x0) := HeldL.cell hS mX (i := 0) rfl
              refine wpAt_of rfl rfl ?_
              simp only [frOf, Act.put]
              go_wp2_with fail
              first | exact ⟨trivial, rfl, trivial, hS⟩ | exact ⟨rfl, trivial, hS⟩
            · refine wpAt_of rfl rfl ?_
              simp only [frOf, Act.put]
              go_wp2_with fail
              first | exact ⟨trivial, rfl, trivial, hS⟩ | exact ⟨rfl, trivial, hS⟩
            · have k2 : vals 2 = .pointer (some ⟨w1.heap.size, 0, none⟩) := hφ 2 (hd 2 (by decide))
              have c0 : W.cell? ⟨w1.heap.size, 0, none⟩ = some (.int .i64 x0) := HeldL.cell hS mA (i := 0) rfl
              refine wpAt_of rfl rfl ?_
              simp only [frOf, Act.put]
              go_wp2_with fail
              first | exact ⟨trivial, rfl, trivial, hS⟩ | exact ⟨rfl, trivial, hS⟩
            · have k1 : vals 1 = .int .i64 x0 := hφ 1 (hd 1 (by decide))
              have k3 : vals 3 = .int .i64 x0 := hφ 3 (hd 3 (by decide))
              refine wpAt_of rfl rfl ?_
              simp only [frOf, Act.put]
              go_wp2_with fail
              first | exact ⟨trivial, rfl, trivial, hS⟩ | exact ⟨rfl, trivial, hS⟩
            · have k4 : vals 4 = .bool true := hφ 4 (hd 4 (by decide))
              refine wpAt_of rfl rfl ?_
              simp only [frOf, Act.put]
              go_wp2_with fail
              first | exact ⟨trivial, rfl, trivial, hS⟩ | exact ⟨rfl, trivial, hS⟩
            · have k5 : vals 5 = .bool true := hφ 5 (hd 5 (by decide))
              simp only [wpAt, List.getElem?_toArray, List.getElem?_cons_succ, List.getElem?_cons_zero, slotOf, frOf, Act.put]
              go_wp2_with fail
              first | exact ⟨trivial, rfl, trivial, hS⟩ | exact ⟨rfl, trivial, hS⟩
            · have k5 : vals 5 = .bool true := hφ 5 (hd 5 (by decide))
              have k6 : vals 6 = undef := hφ 6 (hd 6 (by decide))
              simp only [wpAt, List.getElem?_toArray, List.getElem?_cons_succ, List.getElem?_cons_zero, slotOf, frOf, Act.put]
              go_wp2_with fail
              first | exact ⟨trivial, rfl, trivial, hS⟩ | exact ⟨rfl, trivial, hS⟩
            · have k5 : vals 5 = .bool true := hφ 5 (hd 5 (by decide))
              have k7 : vals 7 = undef := hφ 7 (hd 7 (by decide))
              simp only [wpAt, List.getElem?_toArray, List.getElem?_cons_succ, List.getElem?_cons_zero, slotOf, frOf, Act.put]
              go_wp2_with fail
              first | exact ⟨trivial, rfl, trivial, hS⟩ | exact ⟨rfl, trivial, hS⟩
            · have k5 : vals 5 = .bool true := hφ 5 (hd 5 (by decide))
              have k8 : vals 8 = undef := hφ 8 (hd 8 (by decide))
              refine wpAt_of rfl rfl ?_
              simp only [frOf, Act.put]
              go_wp2_with fail
              first | exact ⟨trivial, rfl, trivial, hS⟩ | exact ⟨rfl, trivial, hS⟩
            · have k9 : vals 9 = .bool true := hφ 9 (hd 9 (by decide))
              refine wpAt_of rfl rfl ?_
              simp only [frOf, Act.put]
              go_wp2_with fail
              first | exact ⟨trivial, rfl, trivial, hS⟩ | exact ⟨rfl, trivial, hS⟩
            · have k10 : vals 10 = .bool true := hφ 10 (hd 10 (by decide))
              simp only [wpAt, List.getElem?_toArray, List.getElem?_cons_succ, List.getElem?_cons_zero, slotOf, frOf, Act.put]
              go_wp2_with fail
              first | exact ⟨trivial, rfl, trivial, hS⟩ | exact ⟨rfl, trivial, hS⟩
            · have k10 : vals 10 = .bool true := hφ 10 (hd 10 (by decide))
              have k11 : vals 11 = .pointer (some ⟨w2.heap.size, 1, none⟩) := hφ 11 (hd 11 (by decide))
              have c1 : W.cell? ⟨w2.heap.size, 1, none⟩ = some (.int .i64 x1) := HeldL.cell hS mX (i := 1) rfl
              simp only [wpAt, List.getElem?_toArray, List.getElem?_cons_succ, List.getElem?_cons_zero, slotOf, frOf, Act.put]
              go_wp2_with fail
              first | exact ⟨trivial, rfl, trivial, hS⟩ | exact ⟨rfl, trivial, hS⟩
            · have k10 : vals 10 = .bool true := hφ 10 (hd 10 (by decide))
              simp only [wpAt, List.getElem?_toArray, List.getElem?_cons_succ, List.getElem?_cons_zero, slotOf, frOf, Act.put]
              go_wp2_with fail
              first | exact ⟨trivial, rfl, trivial, hS⟩ | exact ⟨rfl, trivial, hS⟩
            · have k10 : vals 10 = .bool true := hφ 10 (hd 10 (by decide))
              have k13 : vals 13 = .pointer (some ⟨w1.heap.size, 1, none⟩) := hφ 13 (hd 13 (by decide))
              have c1 : W.cell? ⟨w1.heap.size, 1, none⟩ = some (.int .i64 x1) := HeldL.cell hS mA (i := 1) rfl
              simp only [wpAt, List.getElem?_toArray, List.getElem?_cons_succ, List.getElem?_cons_zero, slotOf, frOf, Act.put]
              go_wp2_with fail
              first | exact ⟨trivial, rfl, trivial, hS⟩ | exact ⟨rfl, trivial, hS⟩
            · have k10 : vals 10 = .bool true := hφ 10 (hd 10 (by decide))
              have k12 : vals 12 = .int .i64 x1 := hφ 12 (hd 12 (by decide))
              have k14 : vals 14 = .int .i64 x1 := hφ 14 (hd 14 (by decide))
              simp only [wpAt, List.getElem?_toArray, List.getElem?_cons_succ, List.getElem?_cons_zero, slotOf, frOf, Act.put]
              go_wp2_with fail
              first | exact ⟨trivial, rfl, trivial, hS⟩ | exact ⟨rfl, trivial, hS⟩
            · have k10 : vals 10 = .bool true := hφ 10 (hd 10 (by decide))
              have k15 : vals 15 = .bool true := hφ 15 (hd 15 (by decide))
              simp only [wpAt, List.getElem?_toArray, List.getElem?_cons_succ, List.getElem?_cons_zero, slotOf, frOf, Act.put]
              go_wp2_with fail
              first | exact ⟨trivial, rfl, trivial, hS⟩ | exact ⟨rfl, trivial, hS⟩
            · have k16 : vals 16 = .bool true := hφ 16 (hd 16 (by decide))
              simp only [wpAt, List.getElem?_toArray, List.getElem?_cons_succ, List.getElem?_cons_zero, slotOf, frOf, Act.put]
              go_wp2_with fail
              first | exact ⟨trivial, rfl, trivial, hS⟩ | exact ⟨rfl, trivial, hS⟩
            · have k16 : vals 16 = .bool true := hφ 16 (hd 16 (by decide))
              have k17 : vals 17 = undef := hφ 17 (hd 17 (by decide))
              simp only [wpAt, List.getElem?_toArray, List.getElem?_cons_succ, List.getElem?_cons_zero, slotOf, frOf, Act.put]
              go_wp2_with fail
              first | exact ⟨trivial, rfl, trivial, hS⟩ | exact ⟨rfl, trivial, hS⟩
            · have k16 : vals 16 = .bool true := hφ 16 (hd 16 (by decide))
              have k18 : vals 18 = undef := hφ 18 (hd 18 (by decide))
              simp only [wpAt, List.getElem?_toArray, List.getElem?_cons_succ, List.getElem?_cons_zero, slotOf, frOf, Act.put]
              go_wp2_with fail
              first | exact ⟨trivial, rfl, trivial, hS⟩ | exact ⟨rfl, trivial, hS⟩
            · have k10 : vals 10 = .bool true := hφ 10 (hd 10 (by decide))
              have k16 : vals 16 = .bool true := hφ 16 (hd 16 (by decide))
              have k19 : vals 19 = undef := hφ 19 (hd 19 (by decide))
              simp only [wpAt, List.getElem?_toArray, List.getElem?_cons_succ, List.getElem?_cons_zero, slotOf, frOf, Act.put]
              go_wp2_with fail
              first | exact ⟨trivial, rfl, trivial, hS⟩ | exact ⟨rfl, trivial, hS⟩
            · have k10 : vals 10 = .bool true := hφ 10 (hd 10 (by decide))
              have k20 : vals 20 = .bool true := hφ 20 (hd 20 (by decide))
              refine wpAt_of rfl rfl ?_
              simp only [frOf, Act.put]
              go_wp2_with fail
              first | exact ⟨trivial, rfl, trivial, hS⟩ | exact ⟨rfl, trivial, hS⟩
            · have k21 : vals 21 = .bool true := hφ 21 (hd 21 (by decide))
              refine wpAt_of rfl rfl ?_
              simp only [frOf, Act.put]
              go_wp2_with fail
              first | exact ⟨trivial, rfl, trivial, hS⟩ | exact ⟨rfl, trivial, hS⟩
            · have k22 : vals 22 = .bool true := hφ 22 (hd 22 (by decide))
              have c0 : W.cell? ⟨w1.heap.size, 0, none⟩ = some (.int .i64 x0) := HeldL.cell hS mA (i := 0) rfl
              have c1 : W.cell? ⟨w1.heap.size, 1, none⟩ = some (.int .i64 x1) := HeldL.cell hS mA (i := 1) rfl
              simp only [wpAt, List.getElem?_toArray, List.getElem?_cons_succ, List.getElem?_cons_zero, slotOf, frOf, Act.put]
              go_wp2_with fail
              first | exact ⟨trivial, rfl, trivial, hS⟩ | exact ⟨rfl, trivial, hS⟩
            · have k22 : vals 22 = .bool true := hφ 22 (hd 22 (by decide))
              have c0 : W.cell? ⟨w1.heap.size, 0, none⟩ = some (.int .i64 x0) := HeldL.cell hS mA (i := 0) rfl
              have c1 : W.cell? ⟨w1.heap.size, 1, none⟩ = some (.int .i64 x1) := HeldL.cell hS mA (i := 1) rfl
              simp only [wpAt, List.getElem?_toArray, List.getElem?_cons_succ, List.getElem?_cons_zero, slotOf, frOf, Act.put]
              go_wp2_with fail
              first | exact ⟨trivial, rfl, trivial, hS⟩ | exact ⟨rfl, trivial, hS⟩
            · have k22 : vals 22 = .bool true := hφ 22 (hd 22 (by decide))
              have k23 : vals 23 = .agg #[.int .i64 x0, .int .i64 x1] := hφ 23 (hd 23 (by decide))
              have k24 : vals 24 = .agg #[.int .i64 x0, .int .i64 x1] := hφ 24 (hd 24 (by decide))
              simp only [wpAt, List.getElem?_toArray, List.getElem?_cons_succ, List.getElem?_cons_zero, slotOf, frOf, Act.put]
              go_wp2_with fail
              refine (wideI_is _ _ _ _ _ _ _ (steps_below hvar (HeldL.below hS)) (by first | exact gB0.out | exact gA0.out | exact gC0.out) (by first | exact gB1.out | exact gA1.out | exact gC1.out)).mono ?_
              rintro e W' ⟨rfl, hb⟩
              go_wp2_with fail
              first | exact ⟨trivial, rfl, trivial, HeldL.next hb hS⟩ | exact ⟨rfl, trivial, HeldL.next hb hS⟩
            · have k22 : vals 22 = .bool true := hφ 22 (hd 22 (by decide))
              have c0 : W.cell? ⟨w1.heap.size, 0, none⟩ = some (.int .i64 x0) := HeldL.cell hS mA (i := 0) rfl
              have c1 : W.cell? ⟨w1.heap.size, 1, none⟩ = some (.int .i64 x1) := HeldL.cell hS mA (i := 1) rfl
              simp only [wpAt, List.getElem?_toArray, List.getElem?_cons_succ, List.getElem?_cons_zero, slotOf, frOf, Act.put]
              go_wp2_with fail
              first | exact ⟨trivial, rfl, trivial, hS⟩ | exact ⟨rfl, trivial, hS⟩
            · have k22 : vals 22 = .bool true := hφ 22 (hd 22 (by decide))
              have k25 : vals 25 = .agg #[.int .i64 x0, .int .i64 x1] := hφ 25 (hd 25 (by decide))
              have k26 : vals 26 = .agg #[.int .i64 x0, .int .i64 x1] := hφ 26 (hd 26 (by decide))
              simp only [wpAt, List.getElem?_toArray, List.getElem?_cons_succ, List.getElem?_cons_zero, slotOf, frOf, Act.put]
              go_wp2_with fail
              first | exact ⟨trivial, rfl, trivial, hS⟩ | exact ⟨rfl, trivial, hS⟩
            · have k22 : vals 22 = .bool true := hφ 22 (hd 22 (by decide))
              have k27 : vals 27 = .bool true := hφ 27 (hd 27 (by decide))
              refine wpAt_of rfl rfl ?_
              simp only [frOf, Act.put]
              go_wp2_with fail
              first | exact ⟨trivial, rfl, trivial, hS⟩ | exact ⟨rfl, trivial, hS⟩
            · have k28 : vals 28 = .bool true := hφ 28 (hd 28 (by decide))
              refine wpAt_of rfl rfl ?_
              simp only [frOf, Act.put]
              go_wp2_with fail
              first | exact ⟨trivial, rfl, trivial, hS⟩ | exact ⟨rfl, trivial, hS⟩
          · intro L vals W hall hφ hS
            have k0 : vals 0 = .pointer (some ⟨w2.heap.size, 0, none⟩) := hφ 0 (by decide)
            have k1 : vals 1 = .int .i64 x0 := hφ 1 (by decide)
            have k2 : vals 2 = .pointer (some ⟨w1.heap.size, 0, none⟩) := hφ 2 (by decide)
            have k3 : vals 3 = .int .i64 x0 := hφ 3 (by decide)
            have k4 : vals 4 = .bool true := hφ 4 (by decide)
            have k5 : vals 5 = .bool true := hφ 5 (by decide)
            have k6 : vals 6 = undef := hφ 6 (by decide)
            have k7 : vals 7 = undef := hφ 7 (by decide)
            have k8 : vals 8 = undef := hφ 8 (by decide)
            have k9 : vals 9 = .bool true := hφ 9 (by decide)
            have k10 : vals 10 = .bool true := hφ 10 (by decide)
            have k11 : vals 11 = .pointer (some ⟨w2.heap.size, 1, none⟩) := hφ 11 (by decide)
            have k12 : vals 12 = .int .i64 x1 := hφ 12 (by decide)
            have k13 : vals 13 = .pointer (some ⟨w1.heap.size, 1, none⟩) := hφ 13 (by decide)
            have k14 : vals 14 = .int .i64 x1 := hφ 14 (by decide)
            have k15 : vals 15 = .bool true := hφ 15 (by decide)
            have k16 : vals 16 = .bool true := hφ 16 (by decide)
            have k17 : vals 17 = undef := hφ 17 (by decide)
            have k18 : vals 18 = undef := hφ 18 (by decide)
            have k19 : vals 19 = undef := hφ 19 (by decide)
            have k20 : vals 20 = .bool true := hφ 20 (by decide)
            have k21 : vals 21 = .bool true := hφ 21 (by decide)
            have k22 : vals 22 = .bool true := hφ 22 (by decide)
            have k23 : vals 23 = .agg #[.int .i64 x0, .int .i64 x1] := hφ 23 (by decide)
            have k24 : vals 24 = .agg #[.int .i64 x0, .int .i64 x1] := hφ 24 (by decide)
            have k25 : vals 25 = .agg #[.int .i64 x0, .int .i64 x1] := hφ 25 (by decide)
            have k26 : vals 26 = .agg #[.int .i64 x0, .int .i64 x1] := hφ 26 (by decide)
            have k27 : vals 27 = .bool true := hφ 27 (by decide)
            have k28 : vals 28 = .bool true := hφ 28 (by decide)
            have k29 : vals 29 = .bool true := hφ 29 (by decide)
            simp only [frOf, Act.put, List.setIfInBounds_toArray, List.set_cons_succ, List.set_cons_zero, k0, k1, k2, k3, k4, k5, k6, k7, k8, k9, k10, k11, k12, k13, k14, k15, k16, k17, k18, k19, k20, k21, k22, k23, k24, k25, k26, k27, k28, k29]
            clear k0 k1 k2 k3 k4 k5 k6 k7 k8 k9 k10 k11 k12 k13 k14 k15 k16 k17 k18 k19 k20 k21 k22 k23 k24 k25 k26 k27 k28 k29
            clear hall hφ hS0
            go_wp2_with fail
            go_ret
            exact ⟨rfl, hS.below⟩
        · clear sH
          have sH : Hid (∃ j, j < 11 ∧ stp j = mh) := sH'
          clear sH'
          have eL := eL.symm
          subst eL
          have hS0 : HeldL w Lb W.drew := hS.drew
          clear hS
          go_wp2_with fail
          refine region_inv3 [(0, 60), (1, 61), (2, 62), (3, 63), (4, 64), (5, 65), (6, 66), (7, 67), (8, 68), (9, 69), (10, 70), (11, 71), (12, 72), (13, 73), (14, 74), (15, 75), (16, 76), (17, 77), (18, 78), (19, 79), (20, 80), (21, 81), (22, 82), (23, 83), (24, 84), (25, 85), (26, 86), (27, 87), (28, 88), (29, 2)]
            (fun j v _ => match j with
              | 0 => Is (.pointer (some ⟨w2.heap.size, 0, none⟩)) v
              | 1 => Is (.int .i64 x0) v
              | 2 => Is (.pointer (some ⟨w1.heap.size, 0, none⟩)) v
              | 3 => Is (.int .i64 x0) v
              | 4 => Is (.bool true) v
              | 5 => Is (.bool true) v
              | 6 => Is (undef) v
              | 7 => Is (undef) v
              | 8 => Is (undef) v
              | 9 => Is (.bool true) v
              | 10 => Is (.bool true) v
              | 11 => Is (.pointer (some ⟨w2.heap.size, 1, none⟩)) v
              | 12 => Is (.int .i64 mh) v
              | 13 => Is (.pointer (some ⟨w1.heap.size, 1, none⟩)) v
              | 14 => Is (.int .i64 x1) v
              | 15 => Is (.bool false) v
              | 16 => Is (.bool false) v
              | 17 => Is (.pointer (some ⟨w2.heap.size, 1, none⟩)) v
              | 18 => Is (.int .i64 mh) v
              | 19 => Is (.bool true) v
              | 20 => Is (.bool true) v
              | 21 => Is (.bool true) v
              | 22 => Is (.bool true) v
              | 23 => Is (.agg #[.int .i64 x0, .int .i64 x1]) v
              | 24 => Is (.agg #[.int .i64 x0, .int .i64 x1]) v
              | 25 => Is (.agg #[.int .i64 x0, .int .i64 x1]) v
              | 26 => Is (.agg #[.int .i64 x0, .int .i64 x1]) v
              | 27 => Is (.bool true) v
              | 28 => Is (.bool true) v
              | 29 => Is (.bool true) v
              | _ => True)
            (fun _ W => HeldL w Lb W) TT
            (by kernel_rfl) (by kernel_rfl) (by kernel_rfl) (by kernel_rfl) (by kernel_rfl) rfl hS0 (fun i j v W W' _ h _ => h) ?_ ?_
          · intro i L vals W hi' hφ hS hL hd
            have hi2 : i < 30 := hi'
            clear hi'
            rcases (show i = 0 ∨ i = 1 ∨ i = 2 ∨ i = 3 ∨ i = 4 ∨ i = 5 ∨ i = 6 ∨ i = 7 ∨ i = 8 ∨ i = 9 ∨ i = 10 ∨ i = 11 ∨ i = 12 ∨ i = 13 ∨ i = 14 ∨ i = 15 ∨ i = 16 ∨ i = 17 ∨ i = 18 ∨ i = 19 ∨ i = 20 ∨ i = 21 ∨ i = 22 ∨ i = 23 ∨ i = 24 ∨ i = 25 ∨ i = 26 ∨ i = 27 ∨ i = 28 ∨ i = 29 by omega) with rfl | rfl | rfl | rfl | rfl | rfl | rfl | rfl | rfl | rfl | rfl | rfl | rfl | rfl | rfl | rfl | rfl | rfl | rfl | rfl | rfl | rfl | rfl | rfl | rfl | rfl | rfl | rfl | rfl | rfl
            · refine wpAt_of rfl rfl ?_
              simp only [frOf, Act.put]
              go_wp2_with fail
              first | exact ⟨trivial, rfl, trivial, hS⟩ | exact ⟨rfl, trivial, hS⟩
            · have k0 : vals 0 = .pointer (some ⟨w2.heap.size, 0, none⟩) := hφ 0 (hd 0 (by decide))
              have c0 : W.cell? ⟨w2.heap.size, 0, none⟩ = some (.int .i64 x0) := HeldL.cell hS mX (i := 0) rfl
              refine wpAt_of rfl rfl ?_
              simp only [frOf, Act.put]
              go_wp2_with fail
              first | exact ⟨trivial, rfl, trivial, hS⟩ | exact ⟨rfl, trivial, hS⟩
            · refine wpAt_of rfl rfl ?_
              simp only [frOf, Act.put]
              go_wp2_with fail
              first | exact ⟨trivial, rfl, trivial, hS⟩ | exact ⟨rfl, trivial, hS⟩
            · have k2 : vals 2 = .pointer (some ⟨w1.heap.size, 0, none⟩) := hφ 2 (hd 2 (by decide))
              have c0 : W.cell? ⟨w1.heap.size, 0, none⟩ = some (.int .i64 x0) := HeldL.cell hS mA (i := 0) rfl
              refine wpAt_of rfl rfl ?_
              simp only [frOf, Act.put]
              go_wp2_with fail
              first | exact ⟨trivial, rfl, trivial, hS⟩ | exact ⟨rfl, trivial, hS⟩
            · have k1 : vals 1 = .int .i64 x0 := hφ 1 (hd 1 (by decide))
              have k3 : vals 3 = .int .i64 x0 := hφ 3 (hd 3 (by decide))
              refine wpAt_of rfl rfl ?_
              simp only [frOf, Act.put]
              go_wp2_with fail
              first | exact ⟨trivial, rfl, trivial, hS⟩ | exact ⟨rfl, trivial, hS⟩
            · have k4 : vals 4 = .bool true := hφ 4 (hd 4 (by decide))
              refine wpAt_of rfl rfl ?_
              simp only [frOf, Act.put]
              go_wp2_with fail
              first | exact ⟨trivial, rfl, trivial, hS⟩ | exact ⟨rfl, trivial, hS⟩
            · have k5 : vals 5 = .bool true := hφ 5 (hd 5 (by decide))
              simp only [wpAt, List.getElem?_toArray, List.getElem?_cons_succ, List.getElem?_cons_zero, slotOf, frOf, Act.put]
              go_wp2_with fail
              first | exact ⟨trivial, rfl, trivial, hS⟩ | exact ⟨rfl, trivial, hS⟩
            · have k5 : vals 5 = .bool true := hφ 5 (hd 5 (by decide))
              have k6 : vals 6 = undef := hφ 6 (hd 6 (by decide))
              simp only [wpAt, List.getElem?_toArray, List.getElem?_cons_succ, List.getElem?_cons_zero, slotOf, frOf, Act.put]
              go_wp2_with fail
              first | exact ⟨trivial, rfl, trivial, hS⟩ | exact ⟨rfl, trivial, hS⟩
            · have k5 : vals 5 = .bool true := hφ 5 (hd 5 (by decide))
              have k7 : vals 7 = undef := hφ 7 (hd 7 (by decide))
              simp only [wpAt, List.getElem?_toArray, List.getElem?_cons_succ, List.getElem?_cons_zero, slotOf, frOf, Act.put]
              go_wp2_with fail
              first | exact ⟨trivial, rfl, trivial, hS⟩ | exact ⟨rfl, trivial, hS⟩
            · have k5 : vals 5 = .bool true := hφ 5 (hd 5 (by decide))
              have k8 : vals 8 = undef := hφ 8 (hd 8 (by decide))
              refine wpAt_of rfl rfl ?_
              simp only [frOf, Act.put]
              go_wp2_with fail
              first | exact ⟨trivial, rfl, trivial, hS⟩ | exact ⟨rfl, trivial, hS⟩
            · have k9 : vals 9 = .bool true := hφ 9 (hd 9 (by decide))
              refine wpAt_of rfl rfl ?_
              simp only [frOf, Act.put]
              go_wp2_with fail
              first | exact ⟨trivial, rfl, trivial, hS⟩ | exact ⟨rfl, trivial, hS⟩
            · have k10 : vals 10 = .bool true := hφ 10 (hd 10 (by decide))
              simp only [wpAt, List.getElem?_toArray, List.getElem?_cons_succ, List.getElem?_cons_zero, slotOf, frOf, Act.put]
              go_wp2_with fail
              first | exact ⟨trivial, rfl, trivial, hS⟩ | exact ⟨rfl, trivial, hS⟩
            · have k10 : vals 10 = .bool true := hφ 10 (hd 10 (by decide))
              have k11 : vals 11 = .pointer (some ⟨w2.heap.size, 1, none⟩) := hφ 11 (hd 11 (by decide))
              have c1 : W.cell? ⟨w2.heap.size, 1, none⟩ = some (.int .i64 mh) := HeldL.cell hS mX (i := 1) rfl
              simp only [wpAt, List.getElem?_toArray, List.getElem?_cons_succ, List.getElem?_cons_zero, slotOf, frOf, Act.put]
              go_wp2_with fail
              first | exact ⟨trivial, rfl, trivial, hS⟩ | exact ⟨rfl, trivial, hS⟩
            · have k10 : vals 10 = .bool true := hφ 10 (hd 10 (by decide))
              simp only [wpAt, List.getElem?_toArray, List.getElem?_cons_succ, List.getElem?_cons_zero, slotOf, frOf, Act.put]
              go_wp2_with fail
              first | exact ⟨trivial, rfl, trivial, hS⟩ | exact ⟨rfl, trivial, hS⟩
            · have k10 : vals 10 = .bool true := hφ 10 (hd 10 (by decide))
              have k13 : vals 13 = .pointer (some ⟨w1.heap.size, 1, none⟩) := hφ 13 (hd 13 (by decide))
              have c1 : W.cell? ⟨w1.heap.size, 1, none⟩ = some (.int .i64 x1) := HeldL.cell hS mA (i := 1) rfl
              simp only [wpAt, List.getElem?_toArray, List.getElem?_cons_succ, List.getElem?_cons_zero, slotOf, frOf, Act.put]
              go_wp2_with fail
              first | exact ⟨trivial, rfl, trivial, hS⟩ | exact ⟨rfl, trivial, hS⟩
            · have k10 : vals 10 = .bool true := hφ 10 (hd 10 (by decide))
              have k12 : vals 12 = .int .i64 mh := hφ 12 (hd 12 (by decide))
              have k14 : vals 14 = .int .i64 x1 := hφ 14 (hd 14 (by decide))
              simp only [wpAt, List.getElem?_toArray, List.getElem?_cons_succ, List.getElem?_cons_zero, slotOf, frOf, Act.put]
              go_wp2_with fail
              first | exact ⟨trivial, isb eH rfl, trivial, hS⟩ | exact ⟨trivial, isd eH rfl, trivial, hS⟩ | exact ⟨isb eH rfl, trivial, hS⟩ | exact ⟨isd eH rfl, trivial, hS⟩
            · have k10 : vals 10 = .bool true := hφ 10 (hd 10 (by decide))
              have k15 : vals 15 = .bool false := hφ 15 (hd 15 (by decide))
              simp only [wpAt, List.getElem?_toArray, List.getElem?_cons_succ, List.getElem?_cons_zero, slotOf, frOf, Act.put]
              go_wp2_with fail
              first | exact ⟨trivial, rfl, trivial, hS⟩ | exact ⟨rfl, trivial, hS⟩
            · have k16 : vals 16 = .bool false := hφ 16 (hd 16 (by decide))
              simp only [wpAt, List.getElem?_toArray, List.getElem?_cons_succ, List.getElem?_cons_zero, slotOf, frOf, Act.put]
              go_wp2_with fail
              first | exact ⟨trivial, rfl, trivial, hS⟩ | exact ⟨rfl, trivial, hS⟩
            · have k16 : vals 16 = .bool false := hφ 16 (hd 16 (by decide))
              have k17 : vals 17 = .pointer (some ⟨w2.heap.size, 1, none⟩) := hφ 17 (hd 17 (by decide))
              have c1 : W.cell? ⟨w2.heap.size, 1, none⟩ = some (.int .i64 mh) := HeldL.cell hS mX (i := 1) rfl
              simp only [wpAt, List.getElem?_toArray, List.getElem?_cons_succ, List.getElem?_cons_zero, slotOf, frOf, Act.put]
              go_wp2_with fail
              first | exact ⟨trivial, rfl, trivial, hS⟩ | exact ⟨rfl, trivial, hS⟩
            · have k16 : vals 16 = .bool false := hφ 16 (hd 16 (by decide))
              have k18 : vals 18 = .int .i64 mh := hφ 18 (hd 18 (by decide))
              simp only [wpAt, List.getElem?_toArray, List.getElem?_cons_succ, List.getElem?_cons_zero, slotOf, frOf, Act.put]
              go_wp2_with fail
              refine (owStepT _ _ (by first | exact sL.out | exact sH.out)).mono ?_
              rintro e W' ⟨rfl, hb⟩
              go_wp2_with fail
              first | exact ⟨trivial, rfl, trivial, HeldL.next hb hS⟩ | exact ⟨rfl, trivial, HeldL.next hb hS⟩
            · have k10 : vals 10 = .bool true := hφ 10 (hd 10 (by decide))
              have k16 : vals 16 = .bool false := hφ 16 (hd 16 (by decide))
              have k19 : vals 19 = .bool true := hφ 19 (hd 19 (by decide))
              simp only [wpAt, List.getElem?_toArray, List.getElem?_cons_succ, List.getElem?_cons_zero, slotOf, frOf, Act.put]
              go_wp2_with fail
              first | exact ⟨trivial, rfl, trivial, hS⟩ | exact ⟨rfl, trivial, hS⟩
            · have k10 : vals 10 = .bool true := hφ 10 (hd 10 (by decide))
              have k20 : vals 20 = .bool true := hφ 20 (hd 20 (by decide))
              refine wpAt_of rfl rfl ?_
              simp only [frOf, Act.put]
              go_wp2_with fail
              first | exact ⟨trivial, rfl, trivial, hS⟩ | exact ⟨rfl, trivial, hS⟩
            · have k21 : vals 21 = .bool true := hφ 21 (hd 21 (by decide))
              refine wpAt_of rfl rfl ?_
              simp only [frOf, Act.put]
              go_wp2_with fail
              first | exact ⟨trivial, rfl, trivial, hS⟩ | exact ⟨rfl, trivial, hS⟩
            · have k22 : vals 22 = .bool true := hφ 22 (hd 22 (by decide))
              have c0 : W.cell? ⟨w1.heap.size, 0, none⟩ = some (.int .i64 x0) := HeldL.cell hS mA (i := 0) rfl
              have c1 : W.cell? ⟨w1.heap.size, 1, none⟩ = some (.int .i64 x1) := HeldL.cell hS mA (i := 1) rfl
              simp only [wpAt, List.getElem?_toArray, List.getElem?_cons_succ, List.getElem?_cons_zero, slotOf, frOf, Act.put]
              go_wp2_with fail
              first | exact ⟨trivial, rfl, trivial, hS⟩ | exact ⟨rfl, trivial, hS⟩
            · have k22 : vals 22 = .bool true := hφ 22 (hd 22 (by decide))
              have c0 : W.cell? ⟨w1.heap.size, 0, none⟩ = some (.int .i64 x0) := HeldL.cell hS mA (i := 0) rfl
              have c1 : W.cell? ⟨w1.heap.size, 1, none⟩ = some (.int .i64 x1) := HeldL.cell hS mA (i := 1) rfl
              simp only [wpAt, List.getElem?_toArray, List.getElem?_cons_succ, List.getElem?_cons_zero, slotOf, frOf, Act.put]
              go_wp2_with fail
              first | exact ⟨trivial, rfl, trivial, hS⟩ | exact ⟨rfl, trivial, hS⟩
            · have k22 : vals 22 = .bool true := hφ 22 (hd 22 (by decide))
              have k23 : vals 23 = .agg #[.int .i64 x0, .int .i64 x1] := hφ 23 (hd 23 (by decide))
              have k24 : vals 24 = .agg #[.int .i64 x0, .int .i64 x1] := hφ 24 (hd 24 (by decide))
              simp only [wpAt, List.getElem?_toArray, List.getElem?_cons_succ, List.getElem?_cons_zero, slotOf, frOf, Act.put]
              go_wp2_with fail
              refine (wideI_is _ _ _ _ _ _ _ (steps_below hvar (HeldL.below hS)) (by first | exact gB0.out | exact gA0.out | exact gC0.out) (by first | exact gB1.out | exact gA1.out | exact gC1.out)).mono ?_
              rintro e W' ⟨rfl, hb⟩
              go_wp2_with fail
              first | exact ⟨trivial, rfl, trivial, HeldL.next hb hS⟩ | exact ⟨rfl, trivial, HeldL.next hb hS⟩
            · have k22 : vals 22 = .bool true := hφ 22 (hd 22 (by decide))
              have c0 : W.cell? ⟨w1.heap.size, 0, none⟩ = some (.int .i64 x0) := HeldL.cell hS mA (i := 0) rfl
              have c1 : W.cell? ⟨w1.heap.size, 1, none⟩ = some (.int .i64 x1) := HeldL.cell hS mA (i := 1) rfl
              simp only [wpAt, List.getElem?_toArray, List.getElem?_cons_succ, List.getElem?_cons_zero, slotOf, frOf, Act.put]
              go_wp2_with fail
              first | exact ⟨trivial, rfl, trivial, hS⟩ | exact ⟨rfl, trivial, hS⟩
            · have k22 : vals 22 = .bool true := hφ 22 (hd 22 (by decide))
              have k25 : vals 25 = .agg #[.int .i64 x0, .int .i64 x1] := hφ 25 (hd 25 (by decide))
              have k26 : vals 26 = .agg #[.int .i64 x0, .int .i64 x1] := hφ 26 (hd 26 (by decide))
              simp only [wpAt, List.getElem?_toArray, List.getElem?_cons_succ, List.getElem?_cons_zero, slotOf, frOf, Act.put]
              go_wp2_with fail
              first | exact ⟨trivial, rfl, trivial, hS⟩ | exact ⟨rfl, trivial, hS⟩
            · have k22 : vals 22 = .bool true := hφ 22 (hd 22 (by decide))
              have k27 : vals 27 = .bool true := hφ 27 (hd 27 (by decide))
              refine wpAt_of rfl rfl ?_
              simp only [frOf, Act.put]
              go_wp2_with fail
              first | exact ⟨trivial, rfl, trivial, hS⟩ | exact ⟨rfl, trivial, hS⟩
            · have k28 : vals 28 = .bool true := hφ 28 (hd 28 (by decide))
              refine wpAt_of rfl rfl ?_
              simp only [frOf, Act.put]
              go_wp2_with fail
              first | exact ⟨trivial, rfl, trivial, hS⟩ | exact ⟨rfl, trivial, hS⟩
          · intro L vals W hall hφ hS
            have k0 : vals 0 = .pointer (some ⟨w2.heap.size, 0, none⟩) := hφ 0 (by decide)
            have k1 : vals 1 = .int .i64 x0 := hφ 1 (by decide)
            have k2 : vals 2 = .pointer (some ⟨w1.heap.size, 0, none⟩) := hφ 2 (by decide)
            have k3 : vals 3 = .int .i64 x0 := hφ 3 (by decide)
            have k4 : vals 4 = .bool true := hφ 4 (by decide)
            have k5 : vals 5 = .bool true := hφ 5 (by decide)
            have k6 : vals 6 = undef := hφ 6 (by decide)
            have k7 : vals 7 = undef := hφ 7 (by decide)
            have k8 : vals 8 = undef := hφ 8 (by decide)
            have k9 : vals 9 = .bool true := hφ 9 (by decide)
            have k10 : vals 10 = .bool true := hφ 10 (by decide)
            have k11 : vals 11 = .pointer (some ⟨w2.heap.size, 1, none⟩) := hφ 11 (by decide)
            have k12 : vals 12 = .int .i64 mh := hφ 12 (by decide)
            have k13 : vals 13 = .pointer (some ⟨w1.heap.size, 1, none⟩) := hφ 13 (by decide)
            have k14 : vals 14 = .int .i64 x1 := hφ 14 (by decide)
            have k15 : vals 15 = .bool false := hφ 15 (by decide)
            have k16 : vals 16 = .bool false := hφ 16 (by decide)
            have k17 : vals 17 = .pointer (some ⟨w2.heap.size, 1, none⟩) := hφ 17 (by decide)
            have k18 : vals 18 = .int .i64 mh := hφ 18 (by decide)
            have k19 : vals 19 = .bool true := hφ 19 (by decide)
            have k20 : vals 20 = .bool true := hφ 20 (by decide)
            have k21 : vals 21 = .bool true := hφ 21 (by decide)
            have k22 : vals 22 = .bool true := hφ 22 (by decide)
            have k23 : vals 23 = .agg #[.int .i64 x0, .int .i64 x1] := hφ 23 (by decide)
            have k24 : vals 24 = .agg #[.int .i64 x0, .int .i64 x1] := hφ 24 (by decide)
            have k25 : vals 25 = .agg #[.int .i64 x0, .int .i64 x1] := hφ 25 (by decide)
            have k26 : vals 26 = .agg #[.int .i64 x0, .int .i64 x1] := hφ 26 (by decide)
            have k27 : vals 27 = .bool true := hφ 27 (by decide)
            have k28 : vals 28 = .bool true := hφ 28 (by decide)
            have k29 : vals 29 = .bool true := hφ 29 (by decide)
            simp only [frOf, Act.put, List.setIfInBounds_toArray, List.set_cons_succ, List.set_cons_zero, k0, k1, k2, k3, k4, k5, k6, k7, k8, k9, k10, k11, k12, k13, k14, k15, k16, k17, k18, k19, k20, k21, k22, k23, k24, k25, k26, k27, k28, k29]
            clear k0 k1 k2 k3 k4 k5 k6 k7 k8 k9 k10 k11 k12 k13 k14 k15 k16 k17 k18 k19 k20 k21 k22 k23 k24 k25 k26 k27 k28 k29
            clear hall hφ hS0
            go_wp2_with fail
            go_ret
            exact ⟨rfl, hS.below⟩
      · clear sL
        have sL : Hid (∃ j, j < 11 ∧ stp j = ml) := sL'
        clear sL'
        rcases sH.out with eH | ⟨eH, sH'⟩
        · clear sH
          have eH := eH.symm
          subst eH
          have hS0 : HeldL w Lb W.drew := hS.drew
          clear hS
          go_wp2_with fail
          refine region_inv3 [(0, 60), (1, 61), (2, 62), (3, 63), (4, 64), (5, 65), (6, 66), (7, 67), (8, 68), (9, 69), (10, 70), (11, 71), (12, 72), (13, 73), (14, 74), (15, 75), (16, 76), (17, 77), (18, 78), (19, 79), (20, 80), (21, 81), (22, 82), (23, 83), (24, 84), (25, 85), (26, 86), (27, 87), (28, 88), (29, 2)]
            (fun j v _ => match j with
              | 0 => Is (.pointer (some ⟨w2.heap.size, 0, none⟩)) v
              | 1 => Is (.int .i64 ml) v
              | 2 => Is (.pointer (some ⟨w1.heap.size, 0, none⟩)) v
              | 3 => Is (.int .i64 x0) v
              | 4 => Is (.bool false) v
              | 5 => Is (.bool false) v
              | 6 => Is (.pointer (some ⟨w2.heap.size, 0, none⟩)) v
              | 7 => Is (.int .i64 ml) v
              | 8 => Is (.bool true) v
              | 9 => Is (.bool true) v
              | 10 => Is (.bool true) v
              | 11 => Is (.pointer (some ⟨w2.heap.size, 1, none⟩)) v
              | 12 => Is (.int .i64 x1) v
              | 13 => Is (.pointer (some ⟨w1.heap.size, 1, none⟩)) v
              | 14 => Is (.int .i64 x1) v
              | 15 => Is (.bool true) v
              | 16 => Is (.bool true) v
              | 17 => Is (undef) v
              | 18 => Is (undef) v
              | 19 => Is (undef) v
              | 20 => Is (.bool true) v
              | 21 => Is (.bool true) v
              | 22 => Is (.bool true) v
              | 23 => Is (.agg #[.int .i64 x0, .int .i64 x1]) v
              | 24 => Is (.agg #[.int .i64 x0, .int .i64 x1]) v
              | 25 => Is (.agg #[.int .i64 x0, .int .i64 x1]) v
              | 26 => Is (.agg #[.int .i64 x0, .int .i64 x1]) v
              | 27 => Is (.bool true) v
              | 28 => Is (.bool true) v
              | 29 => Is (.bool true) v
              | _ => True)
            (fun _ W => HeldL w Lb W) TT
            (by kernel_rfl) (by kernel_rfl) (by kernel_rfl) (by kernel_rfl) (by kernel_rfl) rfl hS0 (fun i j v W W' _ h _ => h) ?_ ?_
          · intro i L vals W hi' hφ hS hL hd
            have hi2 : i < 30 := hi'
            clear hi'
            rcases (show i = 0 ∨ i = 1 ∨ i = 2 ∨ i = 3 ∨ i = 4 ∨ i = 5 ∨ i = 6 ∨ i = 7 ∨ i = 8 ∨ i = 9 ∨ i = 10 ∨ i = 11 ∨ i = 12 ∨ i = 13 ∨ i = 14 ∨ i = 15 ∨ i = 16 ∨ i = 17 ∨ i = 18 ∨ i = 19 ∨ i = 20 ∨ i = 21 ∨ i = 22 ∨ i = 23 ∨ i = 24 ∨ i = 25 ∨ i = 26 ∨ i = 27 ∨ i = 28 ∨ i = 29 by omega) with rfl | rfl | rfl | rfl | rfl | rfl | rfl | rfl | rfl | rfl | rfl | rfl | rfl | rfl | rfl | rfl | rfl | rfl | rfl | rfl | rfl | rfl | rfl | rfl | rfl | rfl | rfl | rfl | rfl | rfl
            · refine wpAt_of rfl rfl ?_
              simp only [frOf, Act.put]
              go_wp2_with fail
              first | exact ⟨trivial, rfl, trivial, hS⟩ | exact ⟨rfl, trivial, hS⟩
            · have k0 : vals 0 = .pointer (some ⟨w2.heap.size, 0, none⟩) := hφ 0 (hd 0 (by decide))
              have c0 : W.cell? ⟨w2.heap.size, 0, none⟩ = some (.int .i64 ml) := HeldL.cell hS mX (i := 0) rfl
              refine wpAt_of rfl rfl ?_
              simp only [frOf, Act.put]
              go_wp2_with fail
              first | exact ⟨trivial, rfl, trivial, hS⟩ | exact ⟨rfl, trivial, hS⟩
            · refine wpAt_of rfl rfl ?_
              simp only [frOf, Act.put]
              go_wp2_with fail
              first | exact ⟨trivial, rfl, trivial, hS⟩ | exact ⟨rfl, trivial, hS⟩
            · have k2 : vals 2 = .pointer (some ⟨w1.heap.size, 0, none⟩) := hφ 2 (hd 2 (by decide))
              have c0 : W.cell? ⟨w1.heap.size, 0, none⟩ = some (.int .i64 x0) := HeldL.cell hS mA (i := 0) rfl
              refine wpAt_of rfl rfl ?_
              simp only [frOf, Act.put]
              go_wp2_with fail
              first | exact ⟨trivial, rfl, trivial, hS⟩ | exact ⟨rfl, trivial, hS⟩
            · have k1 : vals 1 = .int .i64 ml := hφ 1 (hd 1 (by decide))
              have k3 : vals 3 = .int .i64 x0 := hφ 3 (hd 3 (by decide))
              refine wpAt_of rfl rfl ?_
              simp only [frOf, Act.put]
              go_wp2_with fail
              first | exact ⟨trivial, isb eL rfl, trivial, hS⟩ | exact ⟨trivial, isd eL rfl, trivial, hS⟩ | exact ⟨isb eL rfl, trivial, hS⟩ | exact ⟨isd eL rfl, trivial, hS⟩
            · have k4 : vals 4 = .bool false := hφ 4 (hd 4 (by decide))
              refine wpAt_of rfl rfl ?_
              simp only [frOf, Act.put]
              go_wp2_with fail
              first | exact ⟨trivial, rfl, trivial, hS⟩ | exact ⟨rfl, trivial, hS⟩
            · have k5 : vals 5 = .bool false := hφ 5 (hd 5 (by decide))
              simp only [wpAt, List.getElem?_toArray, List.getElem?_cons_succ, List.getElem?_cons_zero, slotOf, frOf, Act.put]
              go_wp2_with fail
              first | exact ⟨trivial, rfl, trivial, hS⟩ | exact ⟨rfl, trivial, hS⟩
            · have k5 : vals 5 = .bool false := hφ 5 (hd 5 (by decide))
              have k6 : vals 6 = .pointer (some ⟨w2.heap.size, 0, none⟩) := hφ 6 (hd 6 (by decide))
              have c0 : W.cell? ⟨w2.heap.size, 0, none⟩ = some (.int .i64 ml) := HeldL.cell hS mX (i := 0) rfl
              simp only [wpAt, List.getElem?_toArray, List.getElem?_cons_succ, List.getElem?_cons_zero, slotOf, frOf, Act.put]
              go_wp2_with fail
              first | exact ⟨trivial, rfl, trivial, hS⟩ | exact ⟨rfl, trivial, hS⟩
            · have k5 : vals 5 = .bool false := hφ 5 (hd 5 (by decide))
              have k7 : vals 7 = .int .i64 ml := hφ 7 (hd 7 (by decide))
              simp only [wpAt, List.getElem?_toArray, List.getElem?_cons_succ, List.getElem?_cons_zero, slotOf, frOf, Act.put]
              go_wp2_with fail
              refine (owStepT _ _ (by first | exact sL.out | exact sH.out)).mono ?_
              rintro e W' ⟨rfl, hb⟩
              go_wp2_with fail
              first | exact ⟨trivial, rfl, trivial, HeldL.next hb hS⟩ | exact ⟨rfl, trivial, HeldL.next hb hS⟩
            · have k5 : vals 5 = .bool false := hφ 5 (hd 5 (by decide))
              have k8 : vals 8 = .bool true := hφ 8 (hd 8 (by decide))
              refine wpAt_of rfl rfl ?_
              simp only [frOf, Act.put]
              go_wp2_with fail
              first | exact ⟨trivial, rfl, trivial, hS⟩ | exact ⟨rfl, trivial, hS⟩
            · have k9 : vals 9 = .bool true := hφ 9 (hd 9 (by decide))
              refine wpAt_of rfl rfl ?_
              simp only [frOf, Act.put]
              go_wp2_with fail
              first | exact ⟨trivial, rfl, trivial, hS⟩ | exact ⟨rfl, trivial, hS⟩
            · have k10 : vals 10 = .bool true := hφ 10 (hd 10 (by decide))
              simp only [wpAt, List.getElem?_toArray, List.getElem?_cons_succ, List.getElem?_cons_zero, slotOf, frOf, Act.put]
              go_wp2_with fail
              first | exact ⟨trivial, rfl, trivial, hS⟩ | exact ⟨rfl, trivial, hS⟩
            · have k10 : vals 10 = .bool true := hφ 10 (hd 10 (by decide))
              have k11 : vals 11 = .pointer (some ⟨w2.heap.size, 1, none⟩) := hφ 11 (hd 11 (by decide))
              have c1 : W.cell? ⟨w2.heap.size, 1, none⟩ = some (.int .i64 x1) := HeldL.cell hS mX (i := 1) rfl
              simp only [wpAt, List.getElem?_toArray, List.getElem?_cons_succ, List.getElem?_cons_zero, slotOf, frOf, Act.put]
              go_wp2_with fail
              first | exact ⟨trivial, rfl, trivial, hS⟩ | exact ⟨rfl, trivial, hS⟩
            · have k10 : vals 10 = .bool true := hφ 10 (hd 10 (by decide))
              simp only [wpAt, List.getElem?_toArray, List.getElem?_cons_succ, List.getElem?_cons_zero, slotOf, frOf, Act.put]
              go_wp2_with fail
              first | exact ⟨trivial, rfl, trivial, hS⟩ | exact ⟨rfl, trivial, hS⟩
            · have k10 : vals 10 = .bool true := hφ 10 (hd 10 (by decide))
              have k13 : vals 13 = .pointer (some ⟨w1.heap.size, 1, none⟩) := hφ 13 (hd 13 (by decide))
              have c1 : W.cell? ⟨w1.heap.size, 1, none⟩ = some (.int .i64 x1) := HeldL.cell hS mA (i := 1) rfl
              simp only [wpAt, List.getElem?_toArray, List.getElem?_cons_succ, List.getElem?_cons_zero, slotOf, frOf, Act.put]
              go_wp2_with fail
              first | exact ⟨trivial, rfl, trivial, hS⟩ | exact ⟨rfl, trivial, hS⟩
            · have k10 : vals 10 = .bool true := hφ 10 (hd 10 (by decide))
              have k12 : vals 12 = .int .i64 x1 := hφ 12 (hd 12 (by decide))
              have k14 : vals 14 = .int .i64 x1 := hφ 14 (hd 14 (by decide))
              simp only [wpAt, List.getElem?_toArray, List.getElem?_cons_succ, List.getElem?_cons_zero, slotOf, frOf, Act.put]
              go_wp2_with fail
              first | exact ⟨trivial, rfl, trivial, hS⟩ | exact ⟨rfl, trivial, hS⟩
            · have k10 : vals 10 = .bool true := hφ 10 (hd 10 (by decide))
              have k15 : vals 15 = .bool true := hφ 15 (hd 15 (by decide))
              simp only [wpAt, List.getElem?_toArray, List.getElem?_cons_succ, List.getElem?_cons_zero, slotOf, frOf, Act.put]
              go_wp2_with fail
              first | exact ⟨trivial, rfl, trivial, hS⟩ | exact ⟨rfl, trivial, hS⟩
            · have k16 : vals 16 = .bool true := hφ 16 (hd 16 (by decide))
              simp only [wpAt, List.getElem?_toArray, List.getElem?_cons_succ, List.getElem?_cons_zero, slotOf, frOf, Act.put]
              go_wp2_with fail
              first | exact ⟨trivial, rfl, trivial, hS⟩ | exact ⟨rfl, trivial, hS⟩
            · have k16 : vals 16 = .bool true := hφ 16 (hd 16 (by decide))
              have k17 : vals 17 = undef := hφ 17 (hd 17 (by decide))
              simp only [wpAt, List.getElem?_toArray, List.getElem?_cons_succ, List.getElem?_cons_zero, slotOf, frOf, Act.put]
              go_wp2_with fail
              first | exact ⟨trivial, rfl, trivial, hS⟩ | exact ⟨rfl, trivial, hS⟩
            · have k16 : vals 16 = .bool true := hφ 16 (hd 16 (by decide))
              have k18 : vals 18 = undef := hφ 18 (hd 18 (by decide))
              simp only [wpAt, List.getElem?_toArray, List.getElem?_cons_succ, List.getElem?_cons_zero, slotOf, frOf, Act.put]
              go_wp2_with fail
              first | exact ⟨trivial, rfl, trivial, hS⟩ | exact ⟨rfl, trivial, hS⟩
            · have k10 : vals 10 = .bool true := hφ 10 (hd 10 (by decide))
              have k16 : vals 16 = .bool true := hφ 16 (hd 16 (by decide))
              have k19 : vals 19 = undef := hφ 19 (hd 19 (by decide))
              simp only [wpAt, List.getElem?_toArray, List.getElem?_cons_succ, List.getElem?_cons_zero, slotOf, frOf, Act.put]
              go_wp2_with fail
              first | exact ⟨trivial, rfl, trivial, hS⟩ | exact ⟨rfl, trivial, hS⟩
            · have k10 : vals 10 = .bool true := hφ 10 (hd 10 (by decide))
              have k20 : vals 20 = .bool true := hφ 20 (hd 20 (by decide))
              refine wpAt_of rfl rfl ?_
              simp only [frOf, Act.put]
              go_wp2_with fail
              first | exact ⟨trivial, rfl, trivial, hS⟩ | exact ⟨rfl, trivial, hS⟩
            · have k21 : vals 21 = .bool true := hφ 21 (hd 21 (by decide))
              refine wpAt_of rfl rfl ?_
              simp only [frOf, Act.put]
              go_wp2_with fail
              first | exact ⟨trivial, rfl, trivial, hS⟩ | exact ⟨rfl, trivial, hS⟩
            · have k22 : vals 22 = .bool true := hφ 22 (hd 22 (by decide))
              have c0 : W.cell? ⟨w1.heap.size, 0, none⟩ = some (.int .i64 x0) := HeldL.cell hS mA (i := 0) rfl
              have c1 : W.cell? ⟨w1.heap.size, 1, none⟩ = some (.int .i64 x1) := HeldL.cell hS mA (i := 1) rfl
              simp only [wpAt, List.getElem?_toArray, List.getElem?_cons_succ, List.getElem?_cons_zero, slotOf, frOf, Act.put]
              go_wp2_with fail
              first | exact ⟨trivial, rfl, trivial, hS⟩ | exact ⟨rfl, trivial, hS⟩
            · have k22 : vals 22 = .bool true := hφ 22 (hd 22 (by decide))
              have c0 : W.cell? ⟨w1.heap.size, 0, none⟩ = some (.int .i64 x0) := HeldL.cell hS mA (i := 0) rfl
              have c1 : W.cell? ⟨w1.heap.size, 1, none⟩ = some (.int .i64 x1) := HeldL.cell hS mA (i := 1) rfl
              simp only [wpAt, List.getElem?_toArray, List.getElem?_cons_succ, List.getElem?_cons_zero, slotOf, frOf, Act.put]
              go_wp2_with fail
              first | exact ⟨trivial, rfl, trivial, hS⟩ | exact ⟨rfl, trivial, hS⟩
            · have k22 : vals 22 = .bool true := hφ 22 (hd 22 (by decide))
              have k23 : vals 23 = .agg #[.int .i64 x0, .int .i64 x1] := hφ 23 (hd 23 (by decide))
              have k24 : vals 24 = .agg #[.int .i64 x0, .int .i64 x1] := hφ 24 (hd 24 (by decide))
              simp only [wpAt, List.getElem?_toArray, List.getElem?_cons_succ, List.getElem?_cons_zero, slotOf, frOf, Act.put]
              go_wp2_with fail
              refine (wideI_is _ _ _ _ _ _ _ (steps_below hvar (HeldL.below hS)) (by first | exact gB0.out | exact gA0.out | exact gC0.out) (by first | exact gB1.out | exact gA1.out | exact gC1.out)).mono ?_
              rintro e W' ⟨rfl, hb⟩
              go_wp2_with fail
              first | exact ⟨trivial, rfl, trivial, HeldL.next hb hS⟩ | exact ⟨rfl, trivial, HeldL.next hb hS⟩
            · have k22 : vals 22 = .bool true := hφ 22 (hd 22 (by decide))
              have c0 : W.cell? ⟨w1.heap.size, 0, none⟩ = some (.int .i64 x0) := HeldL.cell hS mA (i := 0) rfl
              have c1 : W.cell? ⟨w1.heap.size, 1, none⟩ = some (.int .i64 x1) := HeldL.cell hS mA (i := 1) rfl
              simp only [wpAt, List.getElem?_toArray, List.getElem?_cons_succ, List.getElem?_cons_zero, slotOf, frOf, Act.put]
              go_wp2_with fail
              first | exact ⟨trivial, rfl, trivial, hS⟩ | exact ⟨rfl, trivial, hS⟩
            · have k22 : vals 22 = .bool true := hφ 22 (hd 22 (by decide))
              have k25 : vals 25 = .agg #[.int .i64 x0, .int .i64 x1] := hφ 25 (hd 25 (by decide))
              have k26 : vals 26 = .agg #[.int .i64 x0, .int .i64 x1] := hφ 26 (hd 26 (by decide))
              simp only [wpAt, List.getElem?_toArray, List.getElem?_cons_succ, List.getElem?_cons_zero, slotOf, frOf, Act.put]
              go_wp2_with fail
              first | exact ⟨trivial, rfl, trivial, hS⟩ | exact ⟨rfl, trivial, hS⟩
            · have k22 : vals 22 = .bool true := hφ 22 (hd 22 (by decide))
              have k27 : vals 27 = .bool true := hφ 27 (hd 27 (by decide))
              refine wpAt_of rfl rfl ?_
              simp only [frOf, Act.put]
              go_wp2_with fail
              first | exact ⟨trivial, rfl, trivial, hS⟩ | exact ⟨rfl, trivial, hS⟩
            · have k28 : vals 28 = .bool true := hφ 28 (hd 28 (by decide))
              refine wpAt_of rfl rfl ?_
              simp only [frOf, Act.put]
              go_wp2_with fail
              first | exact ⟨trivial, rfl, trivial, hS⟩ | exact ⟨rfl, trivial, hS⟩
          · intro L vals W hall hφ hS
            have k0 : vals 0 = .pointer (some ⟨w2.heap.size, 0, none⟩) := hφ 0 (by decide)
            have k1 : vals 1 = .int .i64 ml := hφ 1 (by decide)
            have k2 : vals 2 = .pointer (some ⟨w1.heap.size, 0, none⟩) := hφ 2 (by decide)
            have k3 : vals 3 = .int .i64 x0 := hφ 3 (by decide)
            have k4 : vals 4 = .bool false := hφ 4 (by decide)
            have k5 : vals 5 = .bool false := hφ 5 (by decide)
            have k6 : vals 6 = .pointer (some ⟨w2.heap.size, 0, none⟩) := hφ 6 (by decide)
            have k7 : vals 7 = .int .i64 ml := hφ 7 (by decide)
            have k8 : vals 8 = .bool true := hφ 8 (by decide)
            have k9 : vals 9 = .bool true := hφ 9 (by decide)
            have k10 : vals 10 = .bool true := hφ 10 (by decide)
            have k11 : vals 11 = .pointer (some ⟨w2.heap.size, 1, none⟩) := hφ 11 (by decide)
            have k12 : vals 12 = .int .i64 x1 := hφ 12 (by decide)
            have k13 : vals 13 = .pointer (some ⟨w1.heap.size, 1, none⟩) := hφ 13 (by decide)
            have k14 : vals 14 = .int .i64 x1 := hφ 14 (by decide)
            have k15 : vals 15 = .bool true := hφ 15 (by decide)
            have k16 : vals 16 = .bool true := hφ 16 (by decide)
            have k17 : vals 17 = undef := hφ 17 (by decide)
            have k18 : vals 18 = undef := hφ 18 (by decide)
            have k19 : vals 19 = undef := hφ 19 (by decide)
            have k20 : vals 20 = .bool true := hφ 20 (by decide)
            have k21 : vals 21 = .bool true := hφ 21 (by decide)
            have k22 : vals 22 = .bool true := hφ 22 (by decide)
            have k23 : vals 23 = .agg #[.int .i64 x0, .int .i64 x1] := hφ 23 (by decide)
            have k24 : vals 24 = .agg #[.int .i64 x0, .int .i64 x1] := hφ 24 (by decide)
            have k25 : vals 25 = .agg #[.int .i64 x0, .int .i64 x1] := hφ 25 (by decide)
            have k26 : vals 26 = .agg #[.int .i64 x0, .int .i64 x1] := hφ 26 (by decide)
            have k27 : vals 27 = .bool true := hφ 27 (by decide)
            have k28 : vals 28 = .bool true := hφ 28 (by decide)
            have k29 : vals 29 = .bool true := hφ 29 (by decide)
            simp only [frOf, Act.put, List.setIfInBounds_toArray, List.set_cons_succ, List.set_cons_zero, k0, k1, k2, k3, k4, k5, k6, k7, k8, k9, k10, k11, k12, k13, k14, k15, k16, k17, k18, k19, k20, k21, k22, k23, k24, k25, k26, k27, k28, k29]
            clear k0 k1 k2 k3 k4 k5 k6 k7 k8 k9 k10 k11 k12 k13 k14 k15 k16 k17 k18 k19 k20 k21 k22 k23 k24 k25 k26 k27 k28 k29
            clear hall hφ hS0
            go_wp2_with fail
            go_ret
            exact ⟨rfl, hS.below⟩
        · clear sH
          have sH : Hid (∃ j, j < 11 ∧ stp j = mh) := sH'
          clear sH'
          have hS0 : HeldL w Lb W.drew := hS.drew
          clear hS
          go_wp2_with fail
          refine region_inv3 [(0, 60), (1, 61), (2, 62), (3, 63), (4, 64), (5, 65), (6, 66), (7, 67), (8, 68), (9, 69), (10, 70), (11, 71), (12, 72), (13, 73), (14, 74), (15, 75), (16, 76), (17, 77), (18, 78), (19, 79), (20, 80), (21, 81), (22, 82), (23, 83), (24, 84), (25, 85), (26, 86), (27, 87), (28, 88), (29, 2)]
            (fun j v _ => match j with
              | 0 => Is (.pointer (some ⟨w2.heap.size, 0, none⟩)) v
              | 1 => Is (.int .i64 ml) v
              | 2 => Is (.pointer (some ⟨w1.heap.size, 0, none⟩)) v
              | 3 => Is (.int .i64 x0) v
              | 4 => Is (.bool false) v
              | 5 => Is (.bool false) v
              | 6 => Is (.pointer (some ⟨w2.heap.size, 0, none⟩)) v
              | 7 => Is (.int .i64 ml) v
              | 8 => Is (.bool true) v
              | 9 => Is (.bool true) v
              | 10 => Is (.bool true) v
              | 11 => Is (.pointer (some ⟨w2.heap.size, 1, none⟩)) v
              | 12 => Is (.int .i64 mh) v
              | 13 => Is (.pointer (some ⟨w1.heap.size, 1, none⟩)) v
              | 14 => Is (.int .i64 x1) v
              | 15 => Is (.bool false) v
              | 16 => Is (.bool false) v
              | 17 => Is (.pointer (some ⟨w2.heap.size, 1, none⟩)) v
              | 18 => Is (.int .i64 mh) v
              | 19 => Is (.bool true) v
              | 20 => Is (.bool true) v
              | 21 => Is (.bool true) v
              | 22 => Is (.bool true) v
              | 23 => Is (.agg #[.int .i64 x0, .int .i64 x1]) v
              | 24 => Is (.agg #[.int .i64 x0, .int .i64 x1]) v
              | 25 => Is (.agg #[.int .i64 x0, .int .i64 x1]) v
              | 26 => Is (.agg #[.int .i64 x0, .int .i64 x1]) v
              | 27 => Is (.bool true) v
              | 28 => Is (.bool true) v
              | 29 => Is (.bool true) v
              | _ => True)
            (fun _ W => HeldL w Lb W) TT
            (by kernel_rfl) (by kernel_rfl) (by kernel_rfl) (by kernel_rfl) (by kernel_rfl) rfl hS0 (fun i j v W W' _ h _ => h) ?_ ?_
          · intro i L vals W hi' hφ hS hL hd
            have hi2 : i < 30 := hi'
            clear hi'
            rcases (show i = 0 ∨ i = 1 ∨ i = 2 ∨ i = 3 ∨ i = 4 ∨ i = 5 ∨ i = 6 ∨ i = 7 ∨ i = 8 ∨ i = 9 ∨ i = 10 ∨ i = 11 ∨ i = 12 ∨ i = 13 ∨ i = 14 ∨ i = 15 ∨ i = 16 ∨ i = 17 ∨ i = 18 ∨ i = 19 ∨ i = 20 ∨ i = 21 ∨ i = 22 ∨ i = 23 ∨ i = 24 ∨ i = 25 ∨ i = 26 ∨ i = 27 ∨ i = 28 ∨ i = 29 by omega) with rfl | rfl | rfl | rfl | rfl | rfl | rfl | rfl | rfl | rfl | rfl | rfl | rfl | rfl | rfl | rfl | rfl | rfl | rfl | rfl | rfl | rfl | rfl | rfl | rfl | rfl | rfl | rfl | rfl | rfl
            · refine wpAt_of rfl rfl ?_
              simp only [frOf, Act.put]
              go_wp2_with fail
              first | exact ⟨trivial, rfl, trivial, hS⟩ | exact ⟨rfl, trivial, hS⟩
            · have k0 : vals 0 = .pointer (some ⟨w2.heap.size, 0, none⟩) := hφ 0 (hd 0 (by decide))
              have c0 : W.cell? ⟨w2.heap.size, 0, none⟩ = some (.int .i64 ml) := HeldL.cell hS mX (i := 0) rfl
              refine wpAt_of rfl rfl ?_
              simp only [frOf, Act.put]
              go_wp2_with fail
              first | exact ⟨trivial, rfl, trivial, hS⟩ | exact ⟨rfl, trivial, hS⟩
            · refine wpAt_of rfl rfl ?_
              simp only [frOf, Act.put]
              go_wp2_with fail
              first | exact ⟨trivial, rfl, trivial, hS⟩ | exact ⟨rfl, trivial, hS⟩
            · have k2 : vals 2 = .pointer (some ⟨w1.heap.size, 0, none⟩) := hφ 2 (hd 2 (by decide))
              have c0 : W.cell? ⟨w1.heap.size, 0, none⟩ = some (.int .i64 x0) := HeldL.cell hS mA (i := 0) rfl
              refine wpAt_of rfl rfl ?_
              simp only [frOf, Act.put]
              go_wp2_with fail
              first | exact ⟨trivial, rfl, trivial, hS⟩ | exact ⟨rfl, trivial, hS⟩
            · have k1 : vals 1 = .int .i64 ml := hφ 1 (hd 1 (by decide))
              have k3 : vals 3 = .int .i64 x0 := hφ 3 (hd 3 (by decide))
              refine wpAt_of rfl rfl ?_
              simp only [frOf, Act.put]
              go_wp2_with fail
              first | exact ⟨trivial, isb eL rfl, trivial, hS⟩ | exact ⟨trivial, isd eL rfl, trivial, hS⟩ | exact ⟨isb eL rfl, trivial, hS⟩ | exact ⟨isd eL rfl, trivial, hS⟩
            · have k4 : vals 4 = .bool false := hφ 4 (hd 4 (by decide))
              refine wpAt_of rfl rfl ?_
              simp only [frOf, Act.put]
              go_wp2_with fail
              first | exact ⟨trivial, rfl, trivial, hS⟩ | exact ⟨rfl, trivial, hS⟩
            · have k5 : vals 5 = .bool false := hφ 5 (hd 5 (by decide))
              simp only [wpAt, List.getElem?_toArray, List.getElem?_cons_succ, List.getElem?_cons_zero, slotOf, frOf, Act.put]
              go_wp2_with fail
              first | exact ⟨trivial, rfl, trivial, hS⟩ | exact ⟨rfl, trivial, hS⟩
            · have k5 : vals 5 = .bool false := hφ 5 (hd 5 (by decide))
              have k6 : vals 6 = .pointer (some ⟨w2.heap.size, 0, none⟩) := hφ 6 (hd 6 (by decide))
              have c0 : W.cell? ⟨w2.heap.size, 0, none⟩ = some (.int .i64 ml) := HeldL.cell hS mX (i := 0) rfl
              simp only [wpAt, List.getElem?_toArray, List.getElem?_cons_succ, List.getElem?_cons_zero, slotOf, frOf, Act.put]
              go_wp2_with fail
              first | exact ⟨trivial, rfl, trivial, hS⟩ | exact ⟨rfl, trivial, hS⟩
            · have k5 : vals 5 = .bool false := hφ 5 (hd 5 (by decide))
              have k7 : vals 7 = .int .i64 ml := hφ 7 (hd 7 (by decide))
              simp only [wpAt, List.getElem?_toArray, List.getElem?_cons_succ, List.getElem?_cons_zero, slotOf, frOf, Act.put]
              go_wp2_with fail
              refine (owStepT _ _ (by first | exact sL.out | exact sH.out)).mono ?_
              rintro e W' ⟨rfl, hb⟩
              go_wp2_with fail
              first | exact ⟨trivial, rfl, trivial, HeldL.next hb hS⟩ | exact ⟨rfl, trivial, HeldL.next hb hS⟩
            · have k5 : vals 5 = .bool false := hφ 5 (hd 5 (by decide))
              have k8 : vals 8 = .bool true := hφ 8 (hd 8 (by decide))
              refine wpAt_of rfl rfl ?_
              simp only [frOf, Act.put]
              go_wp2_with fail
              first | exact ⟨trivial, rfl, trivial, hS⟩ | exact ⟨rfl, trivial, hS⟩
            · have k9 : vals 9 = .bool true := hφ 9 (hd 9 (by decide))
              refine wpAt_of rfl rfl ?_
              simp only [frOf, Act.put]
              go_wp2_with fail
              first | exact ⟨trivial, rfl, trivial, hS⟩ | exact ⟨rfl, trivial, hS⟩
            · have k10 : vals 10 = .bool true := hφ 10 (hd 10 (by decide))
              simp only [wpAt, List.getElem?_toArray, List.getElem?_cons_succ, List.getElem?_cons_zero, slotOf, frOf, Act.put]
              go_wp2_with fail
              first | exact ⟨trivial, rfl, trivial, hS⟩ | exact ⟨rfl, trivial, hS⟩
            · have k10 : vals 10 = .bool true := hφ 10 (hd 10 (by decide))
              have k11 : vals 11 = .pointer (some ⟨w2.heap.size, 1, none⟩) := hφ 11 (hd 11 (by decide))
              have c1 : W.cell? ⟨w2.heap.size, 1, none⟩ = some (.int .i64 mh) := HeldL.cell hS mX (i := 1) rfl
              simp only [wpAt, List.getElem?_toArray, List.getElem?_cons_succ, List.getElem?_cons_zero, slotOf, frOf, Act.put]
              go_wp2_with fail
              first | exact ⟨trivial, rfl, trivial, hS⟩ | exact ⟨rfl, trivial, hS⟩
            · have k10 : vals 10 = .bool true := hφ 10 (hd 10 (by decide))
              simp only [wpAt, List.getElem?_toArray, List.getElem?_cons_succ, List.getElem?_cons_zero, slotOf, frOf, Act.put]
              go_wp2_with fail
              first | exact ⟨trivial, rfl, trivial, hS⟩ | exact ⟨rfl, trivial, hS⟩
            · have k10 : vals 10 = .bool true := hφ 10 (hd 10 (by decide))
              have k13 : vals 13 = .pointer (some ⟨w1.heap.size, 1, none⟩) := hφ 13 (hd 13 (by decide))
              have c1 : W.cell? ⟨w1.heap.size, 1, none⟩ = some (.int .i64 x1) := HeldL.cell hS mA (i := 1) rfl
              simp only [wpAt, List.getElem?_toArray, List.getElem?_cons_succ, List.getElem?_cons_zero, slotOf, frOf, Act.put]
              go_wp2_with fail
              first | exact ⟨trivial, rfl, trivial, hS⟩ | exact ⟨rfl, trivial, hS⟩
            · have k10 : vals 10 = .bool true := hφ 10 (hd 10 (by decide))
              have k12 : vals 12 = .int .i64 mh := hφ 12 (hd 12 (by decide))
              have k14 : vals 14 = .int .i64 x1 := hφ 14 (hd 14 (by decide))
              simp only [wpAt, List.getElem?_toArray, List.getElem?_cons_succ, List.getElem?_cons_zero, slotOf, frOf, Act.put]
              go_wp2_with fail
              first | exact ⟨trivial, isb eH rfl, trivial, hS⟩ | exact ⟨trivial, isd eH rfl, trivial, hS⟩ | exact ⟨isb eH rfl, trivial, hS⟩ | exact ⟨isd eH rfl, trivial, hS⟩
            · have k10 : vals 10 = .bool true := hφ 10 (hd 10 (by decide))
              have k15 : vals 15 = .bool false := hφ 15 (hd 15 (by decide))
              simp only [wpAt, List.getElem?_toArray, List.getElem?_cons_succ, List.getElem?_cons_zero, slotOf, frOf, Act.put]
              go_wp2_with fail
              first | exact ⟨trivial, rfl, trivial, hS⟩ | exact ⟨rfl, trivial, hS⟩
            · have k16 : vals 16 = .bool false := hφ 16 (hd 16 (by decide))
              simp only [wpAt, List.getElem?_toArray, List.getElem?_cons_succ, List.getElem?_cons_zero, slotOf, frOf, Act.put]
              go_wp2_with fail
              first | exact ⟨trivial, rfl, trivial, hS⟩ | exact ⟨rfl, trivial, hS⟩
            · have k16 : vals 16 = .bool false := hφ 16 (hd 16 (by decide))
              have k17 : vals 17 = .pointer (some ⟨w2.heap.size, 1, none⟩) := hφ 17 (hd 17 (by decide))
              have c1 : W.cell? ⟨w2.heap.size, 1, none⟩ = some (.int .i64 mh) := HeldL.cell hS mX (i := 1) rfl
              simp only [wpAt, List.getElem?_toArray, List.getElem?_cons_succ, List.getElem?_cons_zero, slotOf, frOf, Act.put]
              go_wp2_with fail
              first | exact ⟨trivial, rfl, trivial, hS⟩ | exact ⟨rfl, trivial, hS⟩
            · have k16 : vals 16 = .bool false := hφ 16 (hd 16 (by decide))
              have k18 : vals 18 = .int .i64 mh := hφ 18 (hd 18 (by decide))
              simp only [wpAt, List.getElem?_toArray, List.getElem?_cons_succ, List.getElem?_cons_zero, slotOf, frOf, Act.put]
              go_wp2_with fail
              refine (owStepT _ _ (by first | exact sL.out | exact sH.out)).mono ?_
              rintro e W' ⟨rfl, hb⟩
              go_wp2_with fail
              first | exact ⟨trivial, rfl, trivial, HeldL.next hb hS⟩ | exact ⟨rfl, trivial, HeldL.next hb hS⟩
            · have k10 : vals 10 = .bool true := hφ 10 (hd 10 (by decide))
              have k16 : vals 16 = .bool false := hφ 16 (hd 16 (by decide))
              have k19 : vals 19 = .bool true := hφ 19 (hd 19 (by decide))
              simp only [wpAt, List.getElem?_toArray, List.getElem?_cons_succ, List.getElem?_cons_zero, slotOf, frOf, Act.put]
              go_wp2_with fail
              first | exact ⟨trivial, rfl, trivial, hS⟩ | exact ⟨rfl, trivial, hS⟩
            · have k10 : vals 10 = .bool true := hφ 10 (hd 10 (by decide))
              have k20 : vals 20 = .bool true := hφ 20 (hd 20 (by decide))
              refine wpAt_of rfl rfl ?_
              simp only [frOf, Act.put]
              go_wp2_with fail
              first | exact ⟨trivial, rfl, trivial, hS⟩ | exact ⟨rfl, trivial, hS⟩
            · have k21 : vals 21 = .bool true := hφ 21 (hd 21 (by decide))
              refine wpAt_of rfl rfl ?_
              simp only [frOf, Act.put]
              go_wp2_with fail
              first | exact ⟨trivial, rfl, trivial, hS⟩ | exact ⟨rfl, trivial, hS⟩
            · have k22 : vals 22 = .bool true := hφ 22 (hd 22 (by decide))
              have c0 : W.cell? ⟨w1.heap.size, 0, none⟩ = some (.int .i64 x0) := HeldL.cell hS mA (i := 0) rfl
              have c1 : W.cell? ⟨w1.heap.size, 1, none⟩ = some (.int .i64 x1) := HeldL.cell hS mA (i := 1) rfl
              simp only [wpAt, List.getElem?_toArray, List.getElem?_cons_succ, List.getElem?_cons_zero, slotOf, frOf, Act.put]
              go_wp2_with fail
              first | exact ⟨trivial, rfl, trivial, hS⟩ | exact ⟨rfl, trivial, hS⟩
            · have k22 : vals 22 = .bool true := hφ 22 (hd 22 (by decide))
              have c0 : W.cell? ⟨w1.heap.size, 0, none⟩ = some (.int .i64 x0) := HeldL.cell hS mA (i := 0) rfl
              have c1 : W.cell? ⟨w1.heap.size, 1, none⟩ = some (.int .i64 x1) := HeldL.cell hS mA (i := 1) rfl
              simp only [wpAt, List.getElem?_toArray, List.getElem?_cons_succ, List.getElem?_cons_zero, slotOf, frOf, Act.put]
              go_wp2_with fail
              first | exact ⟨trivial, rfl, trivial, hS⟩ | exact ⟨rfl, trivial, hS⟩
            · have k22 : vals 22 = .bool true := hφ 22 (hd 22 (by decide))
              have k23 : vals 23 = .agg #[.int .i64 x0, .int .i64 x1] := hφ 23 (hd 23 (by decide))
              have k24 : vals 24 = .agg #[.int .i64 x0, .int .i64 x1] := hφ 24 (hd 24 (by decide))
              simp only [wpAt, List.getElem?_toArray, List.getElem?_cons_succ, List.getElem?_cons_zero, slotOf, frOf, Act.put]
              go_wp2_with fail
              refine (wideI_is _ _ _ _ _ _ _ (steps_below hvar (HeldL.below hS)) (by first | exact gB0.out | exact gA0.out | exact gC0.out) (by first | exact gB1.out | exact gA1.out | exact gC1.out)).mono ?_
              rintro e W' ⟨rfl, hb⟩
              go_wp2_with fail
              first | exact ⟨trivial, rfl, trivial, HeldL.next hb hS⟩ | exact ⟨rfl, trivial, HeldL.next hb hS⟩
            · have k22 : vals 22 = .bool true := hφ 22 (hd 22 (by decide))
              have c0 : W.cell? ⟨w1.heap.size, 0, none⟩ = some (.int .i64 x0) := HeldL.cell hS mA (i := 0) rfl
              have c1 : W.cell? ⟨w1.heap.size, 1, none⟩ = some (.int .i64 x1) := HeldL.cell hS mA (i := 1) rfl
              simp only [wpAt, List.getElem?_toArray, List.getElem?_cons_succ, List.getElem?_cons_zero, slotOf, frOf, Act.put]
              go_wp2_with fail
              first | exact ⟨trivial, rfl, trivial, hS⟩ | exact ⟨rfl, trivial, hS⟩
            · have k22 : vals 22 = .bool true := hφ 22 (hd 22 (by decide))
              have k25 : vals 25 = .agg #[.int .i64 x0, .int .i64 x1] := hφ 25 (hd 25 (by decide))
              have k26 : vals 26 = .agg #[.int .i64 x0, .int .i64 x1] := hφ 26 (hd 26 (by decide))
              simp only [wpAt, List.getElem?_toArray, List.getElem?_cons_succ, List.getElem?_cons_zero, slotOf, frOf, Act.put]
              go_wp2_with fail
              first | exact ⟨trivial, rfl, trivial, hS⟩ | exact ⟨rfl, trivial, hS⟩
            · have k22 : vals 22 = .bool true := hφ 22 (hd 22 (by decide))
              have k27 : vals 27 = .bool true := hφ 27 (hd 27 (by decide))
              refine wpAt_of rfl rfl ?_
              simp only [frOf, Act.put]
              go_wp2_with fail
              first | exact ⟨trivial, rfl, trivial, hS⟩ | exact ⟨rfl, trivial, hS⟩
            · have k28 : vals 28 = .bool true := hφ 28 (hd 28 (by decide))
              refine wpAt_of rfl rfl ?_
              simp only [frOf, Act.put]
              go_wp2_with fail
              first | exact ⟨trivial, rfl, trivial, hS⟩ | exact ⟨rfl, trivial, hS⟩
          · intro L vals W hall hφ hS
            have k0 : vals 0 = .pointer (some ⟨w2.heap.size, 0, none⟩) := hφ 0 (by decide)
            have k1 : vals 1 = .int .i64 ml := hφ 1 (by decide)
            have k2 : vals 2 = .pointer (some ⟨w1.heap.size, 0, none⟩) := hφ 2 (by decide)
            have k3 : vals 3 = .int .i64 x0 := hφ 3 (by decide)
            have k4 : vals 4 = .bool false := hφ 4 (by decide)
            have k5 : vals 5 = .bool false := hφ 5 (by decide)
            have k6 : vals 6 = .pointer (some ⟨w2.heap.size, 0, none⟩) := hφ 6 (by decide)
            have k7 : vals 7 = .int .i64 ml := hφ 7 (by decide)
            have k8 : vals 8 = .bool true := hφ 8 (by decide)
            have k9 : vals 9 = .bool true := hφ 9 (by decide)
            have k10 : vals 10 = .bool true := hφ 10 (by decide)
            have k11 : vals 11 = .pointer (some ⟨w2.heap.size, 1, none⟩) := hφ 11 (by decide)
            have k12 : vals 12 = .int .i64 mh := hφ 12 (by decide)
            have k13 : vals 13 = .pointer (some ⟨w1.heap.size, 1, none⟩) := hφ 13 (by decide)
            have k14 : vals 14 = .int .i64 x1 := hφ 14 (by decide)
            have k15 : vals 15 = .bool false := hφ 15 (by decide)
            have k16 : vals 16 = .bool false := hφ 16 (by decide)
            have k17 : vals 17 = .pointer (some ⟨w2.heap.size, 1, none⟩) := hφ 17 (by decide)
            have k18 : vals 18 = .int .i64 mh := hφ 18 (by decide)
            have k19 : vals 19 = .bool true := hφ 19 (by decide)
            have k20 : vals 20 = .bool true := hφ 20 (by decide)
            have k21 : vals 21 = .bool true := hφ 21 (by decide)
            have k22 : vals 22 = .bool true := hφ 22 (by decide)
            have k23 : vals 23 = .agg #[.int .i64 x0, .int .i64 x1] := hφ 23 (by decide)
            have k24 : vals 24 = .agg #[.int .i64 x0, .int .i64 x1] := hφ 24 (by decide)
            have k25 : vals 25 = .agg #[.int .i64 x0, .int .i64 x1] := hφ 25 (by decide)
            have k26 : vals 26 = .agg #[.int .i64 x0, .int .i64 x1] := hφ 26 (by decide)
            have k27 : vals 27 = .bool true := hφ 27 (by decide)
            have k28 : vals 28 = .bool true := hφ 28 (by decide)
            have k29 : vals 29 = .bool true := hφ 29 (by decide)
            simp only [frOf, Act.put, List.setIfInBounds_toArray, List.set_cons_succ, List.set_cons_zero, k0, k1, k2, k3, k4, k5, k6, k7, k8, k9, k10, k11, k12, k13, k14, k15, k16, k17, k18, k19, k20, k21, k22, k23, k24, k25, k26, k27, k28, k29]
            clear k0 k1 k2 k3 k4 k5 k6 k7 k8 k9 k10 k11 k12 k13 k14 k15 k16 k17 k18 k19 k20 k21 k22 k23 k24 k25 k26 k27 k28 k29
            clear hall hφ hS0
            go_wp2_with fail
            go_ret
            exact ⟨rfl, hS.below⟩

theorem contract (H : Type) (enc : TypeId × Value → H) (W : World) (base : Nat) (args : Array Value) (ds gs : List (DataW H)) (before : List MemPlace)
    (hval : ∀ (j : Nat) t v, Tryd.f3.params[j]? = some t → args[j]? = some v → Value.okWide Tryd.prog W .any base t v)
    (hW : DataW.Whole enc Tryd.prog Tryd.f3.params.toList Rows.fnItvWideSpec.vars false W args.toList ds gs before) (hL : laidMetH Tryd.prog Rows.fnItvWideRow.laid W) :
    Calls Tryd.prog 3 args W fun e W' => ∃ v, e = .returned v ∧ Rows.fnItvWideSpec.post enc Tryd.prog Tryd.f3 false true false false W args v W' := by
  have hW' := hW
  obtain ⟨p, q, hA0, hV, rfl, hfz, hnd⟩ := hW
  have hA : DataW.TrodAll enc Tryd.prog W 0 (fun _ => true) true Tryd.f3.params.toList args.toList ds p := hA0
  rw [Tryd.params3] at hA hval
  obtain ⟨v0, vs0, d0, ds0, p0, q0, hargs, rfl, rfl, h0, r0'⟩ := trodAll_cons hA
  obtain ⟨rfl, rfl, rfl⟩ := trodAll_nil r0'
  obtain rfl : args = #[v0] := by cases args; simp_all
  obtain ⟨gv, tv, csv, fuelv, dv, pv, rfl, hgv, htv, hvarv, hdv, rfl⟩ := trodVars_one hV
  obtain rfl := Option.some.inj (gVar.symm.trans hgv)
  obtain rfl := Option.some.inj (gVarType.symm.trans htv)
  have ltv : ∀ x ∈ pv, x.block < W.heap.size := DataW.trod_lt fuelv _ _ _ hdv
  obtain ⟨a0, len0, cap0, rfl⟩ := okWide_slice Tryd.underlying22 (hval 0 22 v0 rfl rfl)
  have k0 := h0
  have lt0 : ∀ x ∈ p0, x.block < W.heap.size := by obtain ⟨m, hm⟩ := k0; exact DataW.trod_lt m _ _ _ hm
  obtain ⟨z0, hz0, r0⟩ : ∃ z : Nat → Int, (∀ i, 0 ≤ z i ∧ z i ≤ 255) ∧ Bytes W a0 len0 cap0 z := by
    obtain ⟨fuel, hf⟩ := h0
    rcases open_ints Tryd.underlying22 Tryd.underlying5 (by kernel_rfl) hf with ⟨hcs, _⟩ | ⟨x, l, c, zs, hcs, _, hl, hm, hz, _, hcell, hwz⟩
    · simp [Value.cells] at hcs
      obtain ⟨rfl, rfl, rfl⟩ := hcs
      exact ⟨fun _ => 0, fun _ => by simp, .inl rfl⟩
    · simp [Value.cells] at hcs
      obtain ⟨rfl, rfl, rfl⟩ := hcs
      exact bytes_of hl (by simpa using hz) hcell hwz
  clear hA0
  refine (walk a0 len0 cap0 z0 W hz0 r0 (varTable hL)).mono fun e W' ⟨he, bel⟩ => ?_
  subst he
  obtain ⟨fq, hq⟩ := Below.trod (v := .agg csv) laidOut (by kernel_rfl) (of_decide_eq_true (by kernel_rfl)) ⟨fuelv, hdv⟩ bel ltv
  exact ⟨_, rfl, _, _, _, [], _, _, hW', trodAll_mk1 (shut_bool Tryd.underlying4 _), (trodAll_cons_mk (Below.trod laidOut (by kernel_rfl) (of_decide_eq_true (by kernel_rfl)) k0 bel lt0) trodAll_mk0), trodVars_mk1 gVar gVarType (varStays hvarv bel) hq, bel.frame _, fun h => by cases h⟩

def extra : Array Obj := #[]
def setRow (cs : Array Value) : Obj → Obj
  | .cells _ t frozen => .cells cs t frozen
  | o => o
def tabs (low : Nat) (h : Array Obj) : Array Obj :=
  (h.modify 0 (setRow #[.int .i64 (-32768), .int .i64 (-1000), .int .i64 (-100), .int .i64 (-10), .int .i64 (-1), .int .i64 0, .int .i64 1, .int .i64 10, .int .i64 100, .int .i64 1000, .int .i64 32767]))
theorem laid_met (os : Os) : laidMet Tryd.prog Rows.fnItvWideRow.laid (({ World.holding Tryd.prog os ⟨extra, #[], []⟩ with heap := tabs (World.holding Tryd.prog default ⟨#[], #[], []⟩).heap.size (World.holding Tryd.prog os ⟨extra, #[], []⟩).heap }).forCall (fun _ _ => 0) ⟨#[], #[.slice none 0 0], []⟩).memory :=
  laidMet_of_run' 8 (by kernel_rfl) (by kernel_rfl)
theorem reads (os : Os) {H : Type} (enc : TypeId × Value → H) : ∃ places, DataW.whole enc Tryd.prog (({ World.holding Tryd.prog os ⟨extra, #[], []⟩ with heap := tabs (World.holding Tryd.prog default ⟨#[], #[], []⟩).heap.size (World.holding Tryd.prog os ⟨extra, #[], []⟩).heap }).forCall (fun _ _ => 0) ⟨#[], #[.slice none 0 0], []⟩).memory Tryd.f3.params.toList Rows.fnItvWideSpec.vars false (#[.slice none 0 0] : Array Value).toList 8 = some ([.nil], [Rows.laid_loop_example_outwork_impl_wideSteps], places) :=
  ⟨MemPlace.row ⟨0, 0, none⟩ 11, by kernel_rfl⟩

set_option maxRecDepth 100000 in
theorem lifted (os : Os) (started : os.Started) (H : Type) (enc : TypeId × Value → H) (F : Stop.Interp) :
    ReturnsInHanded {} Tryd.checked os 3 .any ((OpenSpec.ofChange Rows.fnItvWideSpec).preRow enc Tryd.prog Tryd.f3 Rows.fnItvWideRow.domain false Rows.fnItvWideRow.laid) (((OpenSpec.ofChange Rows.fnItvWideSpec).at F).post enc Tryd.prog Tryd.f3 false true false false) := by
  obtain ⟨places, hx⟩ := reads os enc
  refine returnsInHanded_of_row (C := Tryd.checked) (s := OpenSpec.ofChange Rows.fnItvWideSpec) own started (by kernel_rfl) Tryd.func3
    (witness_row_at (enc := enc) (C := Tryd.checked) false ({ World.holding Tryd.prog os ⟨extra, #[], []⟩ with heap := tabs (World.holding Tryd.prog default ⟨#[], #[], []⟩).heap.size (World.holding Tryd.prog os ⟨extra, #[], []⟩).heap }) #[.slice none 0 0] rfl (by kernel_rfl) (by kernel_rfl) (by kernel_rfl)
      (OpenSpec.preRow_of_cond 8 hx (by kernel_rfl) (fun k hk => by cases hk) (by kernel_rfl) (laid_met os))) ?_
  intro W base args ds gs before hval hW _ _ _ hL _ _
  exact contract H enc W base args ds gs before hval hW hL

theorem said : Rows.FnItvWideSaid :=
  OpenClaim.holds_of_cond 3 Tryd.f3 rfl rfl rfl rfl rfl rfl rfl ⟨rfl, rfl, rfl, rfl, rfl⟩ rfl rfl rfl rfl rfl (by kernel_rfl) Tryd.func3 (by kernel_rfl)
    (of_decide_eq_true (by kernel_rfl)) (by unfold Func.isWrapper; first | (rw [if_pos (by decide +kernel)]; kernel_rfl) | (rw [if_neg (by decide +kernel)]; exact ⟨rfl, rfl⟩))
    (fun os started H enc _ F => by rw [OpenClaim.pre_eq_preRow]; exact lifted os started H enc F)

theorem plain (f : FuncId) (fn : Func) (hf : Tryd.pinned.checked.prog.funcNamed "loop.example/outwork/laws.FnItvWide" = some f) (hfn : Tryd.pinned.checked.prog.funcs[f]? = some fn) :
    false = Tryd.pinned.checked.prog.looks [] ∧ ∀ (j : Nat) t, fn.params[j]? = some t → Tryd.pinned.checked.prog.wantsStandIn t = false := by
  obtain rfl : f = 3 := Option.some.inj ((show Tryd.prog.funcNamed "loop.example/outwork/laws.FnItvWide" = some 3 by kernel_rfl).symm.trans hf) |>.symm
  obtain rfl : fn = Tryd.f3 := (Option.some.inj (Tryd.func3.symm.trans hfn)).symm
  refine ⟨by kernel_rfl, fun j t ht => ?_⟩
  rw [Tryd.params3] at ht
  obtain rfl : t = 22 := by simpa using Array.mem_of_getElem? ht
  · exact (show Tryd.prog.wantsStandIn 22 = false by kernel_rfl)

theorem proved : Rows.FnItvWideCardSaid :=
  Claim7.holds_tied_plain_at .later [] _ _ _ _ said (fun _ h => by cases h) (by kernel_rfl) (fun _ h => by cases h) fnItvWide_row_tie rfl ⟨rfl, rfl⟩ (by kernel_rfl) rfl plain (by kernel_rfl)
#print axioms proved
end Go.Proofs.YticljcpdihaheaaDoor.fnItvWide
