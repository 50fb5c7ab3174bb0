/- Whatever bytes are handed in, the law FnRelHolds returns true: of the drawn numbers just one is less, the same or greater, and the program's RelHolds answers as the model's. No condition. -/
import Derived.Test.YtgcokddhghcmbaaDraws
import Derived.WalkKit
import Derived.ProofKit
import Derived.OpenShut
import Derived.ShutString
import Derived.ChangeOld
import Derived.Below
namespace Go.Proofs.Ytgcokddhghcmbaa.fnRelHolds
open Go.ChangeShapes Go.WideShapes Go.ChangeAt Go.RowKit
open Go.ChangeMaps (open_string shut_string)
set_option linter.unusedVariables false

theorem own : ownKnob Try.prog.godebug = none := by kernel_rfl
theorem laidOut : laidOutB Try.prog = true := by kernel_rfl

def IsRow (k : IntKind) (w : World) (a : Option Addr) (len cap : Nat) (zs : List Int) : Prop :=
  (a = none ∧ len = 0 ∧ cap = 0 ∧ zs = []) ∨
  ∃ x, a = some x ∧ len ≤ cap ∧ cap ≤ maxLen ∧ zs.length = cap ∧ (∀ i, i < zs.length → w.cell? (x.add i) = some (.int k (zs.getD i 0))) ∧ ∀ n ∈ zs, (Lit.int k n).wf = true

theorem bytes_of {w : World} {a : Option Addr} {len cap : Nat} {zs : List Int} (h : IsRow .u8 w a len cap zs) :
    ∃ z : Nat → Int, (∀ i, 0 ≤ z i ∧ z i ≤ 255) ∧ Bytes w a len cap z := by
  rcases h with ⟨rfl, rfl, rfl, rfl⟩ | ⟨x, rfl, hl, _, hz, hcell, hwz⟩
  · exact ⟨fun _ => 0, fun _ => by simp, .inl rfl⟩
  · by_cases h0 : len = 0
    · exact ⟨fun _ => 0, fun _ => by simp, .inl h0⟩
    · obtain ⟨b, off, spot⟩ := x
      have hc := hcell 0 (by omega)
      have hspot : spot = none := by simpa [Addr.add] using World.cell?_spot hc
      subst hspot
      refine ⟨fun i => zs.getD i 0, fun i => ?_, .inr ⟨b, off, rfl, World.block_lt_of_cell? w _ hc, hl, fun i hi => ?_⟩⟩
      · show 0 ≤ zs.getD i 0 ∧ zs.getD i 0 ≤ 255
        by_cases hi : i < zs.length
        · have hw := hwz (zs.getD i 0) (by rw [List.getD_eq_getElem?_getD, List.getElem?_eq_getElem hi]; exact List.getElem_mem hi)
          simpa [Lit.wf, IntKind.min, IntKind.max, IntKind.signed, IntKind.bits] using hw
        · rw [List.getD_eq_getElem?_getD, List.getElem?_eq_none (by omega)]; decide
      · have hci := hcell i (by omega)
        by_cases h1 : i = 0
        · subst h1; simpa [Addr.add] using hci
        · simpa [Addr.add, h1] using hci

set_option maxHeartbeats 1000000 in
theorem draw8 (a : Option Addr) (len cap : Nat) (z : Nat → Int) (w : World) (hz : ∀ i, 0 ≤ z i ∧ z i ≤ 255) (hl : len ≤ 1048576) (h : Bytes w a len cap z) :
    Calls Try.prog 8 #[.slice a len cap] w fun e w' => ∃ r a b : Int, e = .returned (.tuple #[.int .i64 r, .int .i64 a, .int .i64 b]) ∧ Below w.heap.size w w' := by
  go_enter Try.func8, Try.ntmps8
  go_wp2_with fail
  refine (open17 a len cap z _ hz hl h).mono ?_
  rintro e w1 ⟨m, c, rfl, h1, g1⟩
  have b1 : Below w.heap.size w w1 := (Below.refl _ _).grown g1 (Nat.le_refl _) (by simp)
  go_wp2_with fail
  refine (or18 w.heap.size a m c z 0 9 _ h1 (by omega) (by omega) (by omega)).mono ?_
  rintro e w2 ⟨x, p2, -, -, rfl, hp2, h2, g2⟩
  have b2 : Below w.heap.size w w2 := b1.grown g2 b1.size (fun k e => by cases e; exact Nat.le_refl _)
  go_wp2_with fail
  refine (pick19 w.heap.size a m c z p2 3 _ h2 (by omega) (by omega) (by omega)).mono ?_
  rintro e w3 ⟨y, hy1, hy2, rfl, h3, g3⟩
  have b3 : Below w.heap.size w w3 := b2.grown g3 b2.size (fun k e => by cases e; exact Nat.le_refl _)
  by_cases h0 : y = 0
  · subst h0
    go_wp2_with fail
    refine (pick19 w.heap.size a m c z (p2 + 1) 6 _ h3 (by omega) (by omega) (by omega)).mono ?_
    rintro e w4 ⟨u, -, -, rfl, h4, g4⟩
    have b4 : Below w.heap.size w w4 := b3.grown g4 b3.size (fun k e => by cases e; exact Nat.le_refl _)
    go_wp2_with fail
    go_ret3
    exact ⟨_, _, _, rfl, b4⟩
  · have e0 : (y == 0) = false := by simpa using h0
    go_wp2_with fail
    refine (pick19 w.heap.size a m c z (p2 + 1) 6 _ h3 (by omega) (by omega) (by omega)).mono ?_
    rintro e w4 ⟨u, -, -, rfl, h4, g4⟩
    have b4 : Below w.heap.size w w4 := b3.grown g4 b3.size (fun k e => by cases e; exact Nat.le_refl _)
    go_wp2_with fail
    refine (or18 w.heap.size a m c z (p2 + 2) 9 _ h4 (by omega) (by omega) (by omega)).mono ?_
    rintro e w5 ⟨v, p5, -, -, rfl, hp5, h5, g5⟩
    have b5 : Below w.heap.size w w5 := b4.grown g5 b4.size (fun k e => by cases e; exact Nat.le_refl _)
    go_wp2_with fail
    go_ret3
    exact ⟨_, _, _, rfl, b5⟩

theorem walk (a0 : Option Addr) (len0 cap0 : Nat) (z0 : List Int) (w : World) (w0 : IsRow .u8 w a0 len0 cap0 z0) :
    Calls Try.prog 3 #[.slice a0 len0 cap0] w fun e w' => e = .returned (.bool true) ∧ Below w.heap.size w w' := by
  by_cases hl : len0 ≤ 1048576
  case neg =>
    have hi : (1048576 : Int) < (len0 : Int) := by omega
    go_enter Try.func3, Try.ntmps3
    go_wp2_with fail
    go_ret
    exact ⟨rfl, Below.refl _ _⟩
  have hi : ¬ (1048576 : Int) < (len0 : Int) := by omega
  obtain ⟨z, hz, hb⟩ := bytes_of w0
  go_enter Try.func3, Try.ntmps3
  go_wp2_with fail
  refine (draw8 a0 len0 cap0 z _ hz hl hb).mono ?_
  rintro e w1 ⟨r, a, b, rfl, hbel⟩
  rcases Int.lt_trichotomy a b with hab | hab | hab
  · have f1 : relB 1 a b = true := by simp [relB, hab]
    have f2 : relB 3 a b = false := by simp [relB]; omega
    have f3 : relB 1 b a = false := by simp [relB]; omega
    have f4 : relB 2 a b = true := by simp [relB]; omega
    have f5 : relB 4 a b = true := by simp [relB]; omega
    clear hab
    go_wp2_with (first | (go_at_call 10; refine (rel10 _ _ _ _).mono ?_; rintro e w' ⟨rfl, rfl⟩) | (go_at_call 9; refine (rel9 _ _ _ _).mono ?_; rintro e w' ⟨rfl, rfl⟩))
    go_ret
    exact ⟨rfl, hbel⟩
  · subst hab
    have f1 : relB 1 a a = false := by simp [relB]
    have f2 : relB 3 a a = true := by simp [relB]
    have f4 : relB 2 a a = true := by simp [relB]
    have f5 : relB 4 a a = false := by simp [relB]
    go_wp2_with (first | (go_at_call 10; refine (rel10 _ _ _ _).mono ?_; rintro e w' ⟨rfl, rfl⟩) | (go_at_call 9; refine (rel9 _ _ _ _).mono ?_; rintro e w' ⟨rfl, rfl⟩))
    go_ret
    exact ⟨rfl, hbel⟩
  · have f1 : relB 1 a b = false := by simp [relB]; omega
    have f2 : relB 3 a b = false := by simp [relB]; omega
    have f3 : relB 1 b a = true := by simp [relB]; omega
    have f4 : relB 2 a b = false := by simp [relB]; omega
    have f5 : relB 4 a b = true := by simp [relB]; omega
    clear hab
    go_wp2_with (first | (go_at_call 10; refine (rel10 _ _ _ _).mono ?_; rintro e w' ⟨rfl, rfl⟩) | (go_at_call 9; refine (rel9 _ _ _ _).mono ?_; rintro e w' ⟨rfl, rfl⟩))
    go_ret
    exact ⟨rfl, hbel⟩

set_option maxRecDepth 100000 in
theorem lifted (os : Os) (started : os.Started) (H : Type) (enc : TypeId × Value → H) :
    ReturnsInHanded {} Try.checked os 3 .any (Rows.fnRelHoldsSpec.pre6 enc Try.prog Try.f3 Rows.fnRelHoldsRow.domain false) (Rows.fnRelHoldsSpec.post enc Try.prog Try.f3 false true false false) := by
  refine returnsInHanded_of_change (C := Try.checked) own started (by kernel_rfl) Try.func3
    (ChangeSpec.witness6 (enc := enc) (C := Try.checked) false ⟨#[], #[.slice none 0 0], []⟩ 8 (by kernel_rfl) (by kernel_rfl) (by kernel_rfl) (by kernel_rfl)) ?_
  intro W base args ds gs before hval0 hW hcnd _
  have hval : ∀ (j : Nat) t v, Try.f3.params[j]? = some t → args[j]? = some v → Value.okWide Try.prog W .any base t v := hval0
  have hW' := hW
  obtain ⟨p, q, hA0, hV, rfl, hfz, hnd⟩ := hW
  have hA : DataW.TrodAll enc Try.prog W 0 (fun _ => true) true Try.f3.params.toList args.toList ds p := hA0
  rw [Try.params3] at hA hval
  obtain ⟨v0, vs0, d0, ds0, p0, q0, hargs, rfl, rfl, h0, r0⟩ := trodAll_cons hA
  obtain ⟨rfl, rfl, rfl⟩ := trodAll_nil r0
  obtain rfl : args = #[v0] := by cases args; simp_all
  obtain ⟨rfl, rfl⟩ := trodVars_none hV
  obtain ⟨a0, len0, cap0, rfl⟩ := okWide_slice Try.underlying22 (hval 0 22 v0 rfl rfl)
  have k0 := h0
  have lt0 : ∀ x ∈ p0, x.block < W.heap.size := by obtain ⟨m, hm⟩ := k0; exact DataW.trod_lt m _ _ _ hm
  obtain ⟨z0, w0⟩ : ∃ zs, IsRow .u8 W a0 len0 cap0 zs := by
    obtain ⟨fuel, hf⟩ := h0
    rcases open_ints Try.underlying22 Try.underlying5 (by kernel_rfl) hf with ⟨hcs, _⟩ | ⟨x, l, c, zs, hcs, _, hl, hm, hz, _, hcell, hwz⟩
    · simp [Value.cells] at hcs
      obtain ⟨rfl, rfl, rfl⟩ := hcs
      exact ⟨[], .inl ⟨rfl, rfl, rfl, rfl⟩⟩
    · simp [Value.cells] at hcs
      obtain ⟨rfl, rfl, rfl⟩ := hcs
      exact ⟨zs, .inr ⟨_, rfl, hl, hm, by simpa using hz, hcell, hwz⟩⟩
  clear hA0 hval0
  refine (walk a0 len0 cap0 z0 W w0).mono fun e W' ⟨he, bel⟩ => ?_
  subst he
  exact ⟨_, rfl, _, _, _, [], _, [], hW', trodAll_mk1 (shut_bool Try.underlying4 _), (trodAll_cons_mk (Below.trod laidOut (by kernel_rfl) (of_decide_eq_true (by kernel_rfl)) k0 bel lt0) trodAll_mk0), rfl, bel.frame _, fun h => by cases h⟩

theorem over : Rows.fnRelHoldsRow.holds Try.pinned (OpenSpec.ofChange Rows.fnRelHoldsSpec) :=
  OpenClaim.holds_of_wide 3 Try.f3 rfl rfl rfl rfl rfl rfl rfl ⟨rfl, rfl, rfl, rfl, rfl⟩ rfl rfl rfl rfl rfl (by kernel_rfl) Try.func3 (by kernel_rfl)
    (of_decide_eq_true (by kernel_rfl)) (by unfold Func.isWrapper; first | (rw [if_pos (by decide +kernel)]; kernel_rfl) | (rw [if_neg (by decide +kernel)]; exact ⟨rfl, rfl⟩))
    (fun os started H enc _ => lifted os started H enc)

theorem proved : Rows.FnRelHoldsSaid := over
#print axioms proved
end Go.Proofs.Ytgcokddhghcmbaa.fnRelHolds
