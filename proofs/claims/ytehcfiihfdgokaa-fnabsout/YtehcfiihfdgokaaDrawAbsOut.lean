/- What DrawAbsOut answers: some step, and a drawn state. -/
import Derived.Test.YtehcfiihfdgokaaDrawState
import Derived.Test.YtehcfiihfdgokaaDrawIns2
namespace Go.Proofs.Ytehcfiihfdgokaa
open Go.ChangeShapes Go.WideShapes Go.ChangeAt Go.RowKit

/-- v is a drawn state, its list at or behind N. -/
def StD (N : Nat) (v : Value) (W : World) : Prop := ∃ (on : Bool) (aa : Option Addr) (g n cap : Nat) (zs : Nat → Int) (x y : Int), v = .agg #[.bool on, .slice aa n cap, .int .i64 x, .int .i64 y] ∧ n ≤ 4 ∧ (0 < n → aa = some ⟨g, 0, none⟩ ∧ N ≤ g ∧ g < W.heap.size) ∧ ∀ j, j < 2 * n → W.cell? ⟨g, j, none⟩ = some (.int .i64 (zs j))
/-- The world turned in three blocks alone. -/
def K3 (R T U : Nat) (_ : Nat) (W W' : World) : Prop := W.heap.size ≤ W'.heap.size ∧ ∀ b, b < W.heap.size → b ≠ R → b ≠ T → b ≠ U → W'.heap[b]? = W.heap[b]?
theorem K3.refl (R T U i : Nat) (W : World) : K3 R T U i W W := ⟨Nat.le_refl _, fun _ _ _ _ _ => rfl⟩
theorem K3.of {R T U i : Nat} {W W' : World} (g : W.grownBy W' (some R)) : K3 R T U i W W' := ⟨g.size, fun b hb h1 _ _ => g.block b hb (fun e => h1 (by injection e))⟩
theorem StD.next {N R T U i : Nat} {v : Value} {W W' : World} (h : StD N v W) (k : K3 R T U i W W') (hR : R < N) (hT : T < N) (hU : U < N) : StD N v W' := by
  obtain ⟨on, aa, g, n, cap, zs, x, y, h1, h2, h3, h4⟩ := h
  refine ⟨on, aa, g, n, cap, zs, x, y, h1, h2, fun hn => ⟨(h3 hn).1, (h3 hn).2.1, Nat.lt_of_lt_of_le (h3 hn).2.2 k.1⟩, fun j hj => ?_⟩
  have hn := h3 (by omega)
  exact (World.cell?_of_block (a := ⟨g, j, none⟩) (k.2 g hn.2.2 (by omega) (by omega) (by omega))).trans (h4 j hj)
theorem K3.set8 {R T U i : Nat} {W : World} {v0 v1 v2 v3 v4 v5 v6 v7 : Value} : K3 R T U i W ((((((((W.setCell ⟨T, 0, none⟩ v0).setCell ⟨T, 1, none⟩ v1).setCell ⟨T, 2, none⟩ v2).setCell ⟨T, 3, none⟩ v3).setCell ⟨T, 4, none⟩ v4).setCell ⟨T, 5, none⟩ v5).setCell ⟨T, 6, none⟩ v6).setCell ⟨T, 7, none⟩ v7) :=
  ⟨by simp [World.setCell], fun b _ _ h2 _ => by
    rw [Below.heap_setCell _ _ _ _ h2, Below.heap_setCell _ _ _ _ h2, Below.heap_setCell _ _ _ _ h2, Below.heap_setCell _ _ _ _ h2, Below.heap_setCell _ _ _ _ h2, Below.heap_setCell _ _ _ _ h2, Below.heap_setCell _ _ _ _ h2, Below.heap_setCell _ _ _ _ h2]⟩
theorem K3.set4 {R T U i : Nat} {W : World} {v0 v1 v2 v3 : Value} : K3 R T U i W ((((W.setCell ⟨U, 0, none⟩ v0).setCell ⟨U, 1, none⟩ v1).setCell ⟨U, 2, none⟩ v2).setCell ⟨U, 3, none⟩ v3) :=
  ⟨by simp [World.setCell], fun b _ _ _ h2 => by
    rw [Below.heap_setCell _ _ _ _ h2, Below.heap_setCell _ _ _ _ h2, Below.heap_setCell _ _ _ _ h2, Below.heap_setCell _ _ _ _ h2]⟩
/-- A reader opened behind the two results' blocks. -/
theorem dr_open84 {w w1 : World} {a : Option Addr} {m c : Nat} {z : Nat → Int} {t t' : TypeId} (h1 : Rd w1 ((w.alloc (.cells #[.int .i64 0, .int .i64 0, .int .i64 0, .int .i64 0, .int .i64 0, .int .i64 0, .int .i64 0, .int .i64 0] t)).alloc (.cells #[.bool false, .slice none 0 0, .int .i64 0, .int .i64 0] t')).heap.size a m c z 0) (g1 : ((w.alloc (.cells #[.int .i64 0, .int .i64 0, .int .i64 0, .int .i64 0, .int .i64 0, .int .i64 0, .int .i64 0, .int .i64 0] t)).alloc (.cells #[.bool false, .slice none 0 0, .int .i64 0, .int .i64 0] t')).grownBy w1 none) : Dr w (w.heap.size + 1 + 1) a m c z 0 [⟨w.heap.size + 1, 0, AnyQ⟩, ⟨w.heap.size + 1, 1, AnyQ⟩, ⟨w.heap.size + 1, 2, AnyQ⟩, ⟨w.heap.size + 1, 3, AnyQ⟩, ⟨w.heap.size, 0, IsI⟩, ⟨w.heap.size, 1, IsI⟩, ⟨w.heap.size, 2, IsI⟩, ⟨w.heap.size, 3, IsI⟩, ⟨w.heap.size, 4, IsI⟩, ⟨w.heap.size, 5, IsI⟩, ⟨w.heap.size, 6, IsI⟩, ⟨w.heap.size, 7, IsI⟩] w1 := by
  have e1 : (w.alloc (.cells #[.int .i64 0, .int .i64 0, .int .i64 0, .int .i64 0, .int .i64 0, .int .i64 0, .int .i64 0, .int .i64 0] t)).heap.size = w.heap.size + 1 := by simp
  have e : ((w.alloc (.cells #[.int .i64 0, .int .i64 0, .int .i64 0, .int .i64 0, .int .i64 0, .int .i64 0, .int .i64 0, .int .i64 0] t)).alloc (.cells #[.bool false, .slice none 0 0, .int .i64 0, .int .i64 0] t')).heap.size = w.heap.size + 1 + 1 := by simp
  rw [e] at h1
  have g2 : ((w.alloc (.cells #[.int .i64 0, .int .i64 0, .int .i64 0, .int .i64 0, .int .i64 0, .int .i64 0, .int .i64 0, .int .i64 0] t)).alloc (.cells #[.bool false, .slice none 0 0, .int .i64 0, .int .i64 0] t')).grownBy w1 (some (w.heap.size + 1 + 1)) := ⟨g1.os, g1.tape, g1.output, g1.size, fun k hk _ => g1.block k hk (by simp)⟩
  have i0 : IsI (.int .i64 0) := ⟨0, rfl, by constructor <;> omega⟩
  have f1 : Fs w (w.heap.size + 1 + 1) [⟨w.heap.size, 0, IsI⟩, ⟨w.heap.size, 1, IsI⟩, ⟨w.heap.size, 2, IsI⟩, ⟨w.heap.size, 3, IsI⟩, ⟨w.heap.size, 4, IsI⟩, ⟨w.heap.size, 5, IsI⟩, ⟨w.heap.size, 6, IsI⟩, ⟨w.heap.size, 7, IsI⟩] (w.alloc (.cells #[.int .i64 0, .int .i64 0, .int .i64 0, .int .i64 0, .int .i64 0, .int .i64 0, .int .i64 0, .int .i64 0] t)) := by
    refine Fs.cons (by show w.heap.size ≠ _; omega) (Nat.le_refl _) (by show w.heap.size < _; simp) (by simp [go_sem]) (v := .int .i64 0) (by simp [go_sem]) i0 ?_
    refine Fs.cons (by show w.heap.size ≠ _; omega) (Nat.le_refl _) (by show w.heap.size < _; simp) (by simp [go_sem]) (v := .int .i64 0) (by simp [go_sem]) i0 ?_
    refine Fs.cons (by show w.heap.size ≠ _; omega) (Nat.le_refl _) (by show w.heap.size < _; simp) (by simp [go_sem]) (v := .int .i64 0) (by simp [go_sem]) i0 ?_
    refine Fs.cons (by show w.heap.size ≠ _; omega) (Nat.le_refl _) (by show w.heap.size < _; simp) (by simp [go_sem]) (v := .int .i64 0) (by simp [go_sem]) i0 ?_
    refine Fs.cons (by show w.heap.size ≠ _; omega) (Nat.le_refl _) (by show w.heap.size < _; simp) (by simp [go_sem]) (v := .int .i64 0) (by simp [go_sem]) i0 ?_
    refine Fs.cons (by show w.heap.size ≠ _; omega) (Nat.le_refl _) (by show w.heap.size < _; simp) (by simp [go_sem]) (v := .int .i64 0) (by simp [go_sem]) i0 ?_
    refine Fs.cons (by show w.heap.size ≠ _; omega) (Nat.le_refl _) (by show w.heap.size < _; simp) (by simp [go_sem]) (v := .int .i64 0) (by simp [go_sem]) i0 ?_
    refine Fs.cons (by show w.heap.size ≠ _; omega) (Nat.le_refl _) (by show w.heap.size < _; simp) (by simp [go_sem]) (v := .int .i64 0) (by simp [go_sem]) i0 ?_
    exact Fs.nil _ _ _
  have f2 : Fs w (w.heap.size + 1 + 1) [⟨w.heap.size + 1, 0, AnyQ⟩, ⟨w.heap.size + 1, 1, AnyQ⟩, ⟨w.heap.size + 1, 2, AnyQ⟩, ⟨w.heap.size + 1, 3, AnyQ⟩, ⟨w.heap.size, 0, IsI⟩, ⟨w.heap.size, 1, IsI⟩, ⟨w.heap.size, 2, IsI⟩, ⟨w.heap.size, 3, IsI⟩, ⟨w.heap.size, 4, IsI⟩, ⟨w.heap.size, 5, IsI⟩, ⟨w.heap.size, 6, IsI⟩, ⟨w.heap.size, 7, IsI⟩] ((w.alloc (.cells #[.int .i64 0, .int .i64 0, .int .i64 0, .int .i64 0, .int .i64 0, .int .i64 0, .int .i64 0, .int .i64 0] t)).alloc (.cells #[.bool false, .slice none 0 0, .int .i64 0, .int .i64 0] t')) := by
    rw [← e1]
    refine Fs.cons (by show (w.alloc (.cells #[.int .i64 0, .int .i64 0, .int .i64 0, .int .i64 0, .int .i64 0, .int .i64 0, .int .i64 0, .int .i64 0] t)).heap.size ≠ (w.alloc (.cells #[.int .i64 0, .int .i64 0, .int .i64 0, .int .i64 0, .int .i64 0, .int .i64 0, .int .i64 0, .int .i64 0] t)).heap.size + 1; omega) (by show w.heap.size ≤ (w.alloc (.cells #[.int .i64 0, .int .i64 0, .int .i64 0, .int .i64 0, .int .i64 0, .int .i64 0, .int .i64 0, .int .i64 0] t)).heap.size; simp) (by show (w.alloc (.cells #[.int .i64 0, .int .i64 0, .int .i64 0, .int .i64 0, .int .i64 0, .int .i64 0, .int .i64 0, .int .i64 0] t)).heap.size < _; simp) (World.frozen?_alloc_new _ _ _ _) (v := .bool false) (by unfold World.cell?; rw [heap_alloc_new]; rfl) trivial ?_
    refine Fs.cons (by show (w.alloc (.cells #[.int .i64 0, .int .i64 0, .int .i64 0, .int .i64 0, .int .i64 0, .int .i64 0, .int .i64 0, .int .i64 0] t)).heap.size ≠ (w.alloc (.cells #[.int .i64 0, .int .i64 0, .int .i64 0, .int .i64 0, .int .i64 0, .int .i64 0, .int .i64 0, .int .i64 0] t)).heap.size + 1; omega) (by show w.heap.size ≤ (w.alloc (.cells #[.int .i64 0, .int .i64 0, .int .i64 0, .int .i64 0, .int .i64 0, .int .i64 0, .int .i64 0, .int .i64 0] t)).heap.size; simp) (by show (w.alloc (.cells #[.int .i64 0, .int .i64 0, .int .i64 0, .int .i64 0, .int .i64 0, .int .i64 0, .int .i64 0, .int .i64 0] t)).heap.size < _; simp) (World.frozen?_alloc_new _ _ _ _) (v := .slice none 0 0) (by unfold World.cell?; rw [heap_alloc_new]; rfl) trivial ?_
    refine Fs.cons (by show (w.alloc (.cells #[.int .i64 0, .int .i64 0, .int .i64 0, .int .i64 0, .int .i64 0, .int .i64 0, .int .i64 0, .int .i64 0] t)).heap.size ≠ (w.alloc (.cells #[.int .i64 0, .int .i64 0, .int .i64 0, .int .i64 0, .int .i64 0, .int .i64 0, .int .i64 0, .int .i64 0] t)).heap.size + 1; omega) (by show w.heap.size ≤ (w.alloc (.cells #[.int .i64 0, .int .i64 0, .int .i64 0, .int .i64 0, .int .i64 0, .int .i64 0, .int .i64 0, .int .i64 0] t)).heap.size; simp) (by show (w.alloc (.cells #[.int .i64 0, .int .i64 0, .int .i64 0, .int .i64 0, .int .i64 0, .int .i64 0, .int .i64 0, .int .i64 0] t)).heap.size < _; simp) (World.frozen?_alloc_new _ _ _ _) (v := .int .i64 0) (by unfold World.cell?; rw [heap_alloc_new]; rfl) trivial ?_
    refine Fs.cons (by show (w.alloc (.cells #[.int .i64 0, .int .i64 0, .int .i64 0, .int .i64 0, .int .i64 0, .int .i64 0, .int .i64 0, .int .i64 0] t)).heap.size ≠ (w.alloc (.cells #[.int .i64 0, .int .i64 0, .int .i64 0, .int .i64 0, .int .i64 0, .int .i64 0, .int .i64 0, .int .i64 0] t)).heap.size + 1; omega) (by show w.heap.size ≤ (w.alloc (.cells #[.int .i64 0, .int .i64 0, .int .i64 0, .int .i64 0, .int .i64 0, .int .i64 0, .int .i64 0, .int .i64 0] t)).heap.size; simp) (by show (w.alloc (.cells #[.int .i64 0, .int .i64 0, .int .i64 0, .int .i64 0, .int .i64 0, .int .i64 0, .int .i64 0, .int .i64 0] t)).heap.size < _; simp) (World.frozen?_alloc_new _ _ _ _) (v := .int .i64 0) (by unfold World.cell?; rw [heap_alloc_new]; rfl) trivial ?_
    rw [e1]
    exact f1.alloc _
  exact ⟨⟨0, Nat.le_refl _, h1⟩, grown_trans (grown_trans (World.grownBy_alloc _ _ _) (World.grownBy_alloc _ _ _)) g2, f2.next g2⟩
/-- The result's four cells, told. -/
def StC (N U : Nat) (W : World) : Prop := ∃ (on : Bool) (s x y : Value), W.cell? ⟨U, 0, none⟩ = some (.bool on) ∧ W.cell? ⟨U, 1, none⟩ = some s ∧ W.cell? ⟨U, 2, none⟩ = some x ∧ W.cell? ⟨U, 3, none⟩ = some y ∧ StD N (.agg #[.bool on, s, x, y]) W

set_option maxRecDepth 10000 in
set_option maxHeartbeats 40000000 in
theorem drawAbsOut (a : Option Addr) (len cap : Nat) (z : Nat → Int) (w : World) (hz : ∀ i, 0 ≤ z i ∧ z i ≤ 255) (hl : len ≤ 1048576) (h : Bytes w a len cap z) :
    Calls Try.prog 6 #[.slice a len cap] w fun e w' => ∃ (x0 x1 x2 x3 x4 x5 x6 x7 : Int) (v : Value), (I64 x0 ∧ I64 x1 ∧ I64 x2 ∧ I64 x3 ∧ I64 x4 ∧ I64 x5 ∧ I64 x6 ∧ I64 x7) ∧ StD w.heap.size v w' ∧ e = .returned (.tuple #[.agg #[.int .i64 x0, .int .i64 x1, .int .i64 x2, .int .i64 x3, .int .i64 x4, .int .i64 x5, .int .i64 x6, .int .i64 x7], v]) ∧ Below w.heap.size w w' := by
  have b0 : Below w.heap.size w ((w.alloc (.cells #[.int .i64 0, .int .i64 0, .int .i64 0, .int .i64 0, .int .i64 0, .int .i64 0, .int .i64 0, .int .i64 0] 24)).alloc (.cells #[.bool false, .slice none 0 0, .int .i64 0, .int .i64 0] 29)) := ((Below.refl _ _).alloc (Nat.le_refl _) _).alloc (by simp) _
  go_enter Try.func6, Try.ntmps6
  go_wp2_with fail
  refine (openS2 a len cap z _ hz hl (h.kept b0)).mono ?_
  rintro e w1 ⟨m, c, hm, rfl, h1, g1⟩
  have ho := old_of h hm
  have D1 := dr_open84 h1 g1
  obtain ⟨R, hR⟩ : ∃ R, R = ((w.alloc (.cells #[.int .i64 0, .int .i64 0, .int .i64 0, .int .i64 0, .int .i64 0, .int .i64 0, .int .i64 0, .int .i64 0] 24)).alloc (.cells #[.bool false, .slice none 0 0, .int .i64 0, .int .i64 0] 29)).heap.size := ⟨_, rfl⟩
  have hR1 : R = w.heap.size + 1 + 1 := by rw [hR]; simp
  rw [← hR1] at D1
  rw [← hR]
  have hRw : w.heap.size ≤ R := by omega
  have hOR : w.heap.size ≠ R := by omega
  have hUR : w.heap.size + 1 ≠ R := by omega
  have hRU : w.heap.size + 1 < R := by omega
  have hR3 : R < w.heap.size + 3 := by omega
  clear hR hR1 h1 g1 b0 h hm hz
  obtain ⟨p1, hp1, hr1⟩ := D1.rd
  go_wp2_with fail
  refine (pick R a m c z p1 4 _ hr1 (by omega) (by omega) (by omega)).mono ?_
  rintro e w2 ⟨x, hx, hx', rfl, h2, g2⟩
  have D2 := Dr.next (Q' := 1) D1 h2 g2 (by omega)
  have i0 : IsI (.int .i64 0) := ⟨0, rfl, by constructor <;> omega⟩
  have D3 := D2.new8 (t := 24) (v0 := .int .i64 12) (v1 := .int .i64 0) (v2 := .int .i64 x) (v3 := .int .i64 0) (v4 := .int .i64 0) (v5 := .int .i64 0) (v6 := .int .i64 0) (v7 := .int .i64 0) ⟨_, rfl, by constructor <;> omega⟩ i0 ⟨_, rfl, by constructor <;> omega⟩ i0 i0 i0 i0 i0
  obtain ⟨X, hX⟩ : ∃ X, X = w2.heap.size := ⟨_, rfl⟩
  have hXR : R < X := by rw [hX]; exact h2.size
  rw [← hX] at D3
  have hXS : Hid (X = w2.heap.size) := hX
  clear hX D1 D2 h2 g2 hr1 i0
  obtain ⟨F, hF⟩ : ∃ F : List Sp, F = [⟨X, 0, IsI⟩, ⟨X, 1, IsI⟩, ⟨X, 2, IsI⟩, ⟨X, 3, IsI⟩, ⟨X, 4, IsI⟩, ⟨X, 5, IsI⟩, ⟨X, 6, IsI⟩, ⟨X, 7, IsI⟩, ⟨w.heap.size + 1, 0, AnyQ⟩, ⟨w.heap.size + 1, 1, AnyQ⟩, ⟨w.heap.size + 1, 2, AnyQ⟩, ⟨w.heap.size + 1, 3, AnyQ⟩, ⟨w.heap.size, 0, IsI⟩, ⟨w.heap.size, 1, IsI⟩, ⟨w.heap.size, 2, IsI⟩, ⟨w.heap.size, 3, IsI⟩, ⟨w.heap.size, 4, IsI⟩, ⟨w.heap.size, 5, IsI⟩, ⟨w.heap.size, 6, IsI⟩, ⟨w.heap.size, 7, IsI⟩] := ⟨_, rfl⟩
  rw [← hF] at D3
  have mO : ∀ i, i < 8 → (⟨w.heap.size, i, IsI⟩ : Sp) ∈ F := by
    intro i hi
    rw [hF]
    rcases (show i = 0 ∨ i = 1 ∨ i = 2 ∨ i = 3 ∨ i = 4 ∨ i = 5 ∨ i = 6 ∨ i = 7 by omega) with rfl | rfl | rfl | rfl | rfl | rfl | rfl | rfl <;> simp
  have mX : ∀ i, i < 8 → (⟨X, i, IsI⟩ : Sp) ∈ F := by
    intro i hi
    rw [hF]
    rcases (show i = 0 ∨ i = 1 ∨ i = 2 ∨ i = 3 ∨ i = 4 ∨ i = 5 ∨ i = 6 ∨ i = 7 by omega) with rfl | rfl | rfl | rfl | rfl | rfl | rfl | rfl <;> simp
  have mU : ∀ i, i < 4 → (⟨w.heap.size + 1, i, AnyQ⟩ : Sp) ∈ F := by
    intro i hi
    rw [hF]
    rcases (show i = 0 ∨ i = 1 ∨ i = 2 ∨ i = 3 by omega) with rfl | rfl | rfl | rfl <;> simp
  have hFO : ∀ v, IsI v → ∀ f ∈ F, f.b = w.heap.size → f.P v := by
    intro v hv f hf hb
    rw [hF] at hf
    simp only [List.mem_cons, List.not_mem_nil, or_false] at hf
    rcases hf with rfl | rfl | rfl | rfl | rfl | rfl | rfl | rfl | rfl | rfl | rfl | rfl | rfl | rfl | rfl | rfl | rfl | rfl | rfl | rfl <;> first | exact hv | exact trivial
  have hFX : ∀ v, IsI v → ∀ f ∈ F, f.b = X → f.P v := by
    intro v hv f hf hb
    rw [hF] at hf
    simp only [List.mem_cons, List.not_mem_nil, or_false] at hf
    rcases hf with rfl | rfl | rfl | rfl | rfl | rfl | rfl | rfl | rfl | rfl | rfl | rfl | rfl | rfl | rfl | rfl | rfl | rfl | rfl | rfl <;> first | exact hv | exact trivial
  have hFU : ∀ v i, ∀ f ∈ F, f.b = w.heap.size + 1 → f.o = i → f.P v := by
    intro v i f hf hb _
    rw [hF] at hf
    simp only [List.mem_cons, List.not_mem_nil, or_false] at hf
    rcases hf with rfl | rfl | rfl | rfl | rfl | rfl | rfl | rfl | rfl | rfl | rfl | rfl | rfl | rfl | rfl | rfl | rfl | rfl | rfl | rfl <;> first | exact trivial | (exfalso; replace hb : X = w.heap.size + 1 := hb; omega) | (exfalso; replace hb : w.heap.size = w.heap.size + 1 := hb; omega)
  clear hF
  obtain ⟨p3, hp3, hr3⟩ := D3.rd
  go_wp2_with fail
  rw [← hXS.out]
  clear hXS
  refine (oddS R a m c z p3 4 _ hr3 (by omega) (by omega) (by omega)).mono ?_
  rintro e w4 ⟨od, rfl, h4, g4⟩
  have D4 : Dr w R a m c z 300 F w4 := D3.next h4 g4 (by omega)
  clear D3 hr3 h4 g4
  go_upto_if 12 with fail
  go_cut [5] (fun v W => v = .pointer (some ⟨X, 0, none⟩) ∧ Dr w R a m c z 700 F W)
  case first =>
    cases od
    · go_wp2_with fail
      go_meet
      exact ⟨rfl, D4.more (by omega)⟩
    · obtain ⟨p5, hp5, h5⟩ := D4.rd
      go_wp2_with fail
      refine (insOrD R a m c z p5 3 _ h5 (by omega) (by omega) (by omega)).mono ?_
      rintro e w6 ⟨v, p6, ⟨x0, x1, x2, x3, x4, x5, x6, x7, rfl, hx0, hx1, hx2, hx3, hx4, hx5, hx6, hx7⟩, rfl, hp6, h6, g6⟩
      have D6 : Dr w R a m c z 600 F w6 := D4.next h6 g6 (by omega)
      obtain ⟨y0, y1, y2, y3, y4, y5, y6, y7, ⟨c0, c1, c2, c3, c4, c5, c6, c7⟩, _⟩ := D6.at8 mX
      obtain ⟨f0, f1, f2, f3, f4, f5, f6, f7⟩ := D6.free8 mX
      go_wp2_with fail
      go_meet
      exact ⟨rfl, (D6.set8 ho (by omega) (by omega) hFX ⟨_, rfl, hx0⟩ ⟨_, rfl, hx1⟩ ⟨_, rfl, hx2⟩ ⟨_, rfl, hx3⟩ ⟨_, rfl, hx4⟩ ⟨_, rfl, hx5⟩ ⟨_, rfl, hx6⟩ ⟨_, rfl, hx7⟩).more (by omega)⟩
  case rest =>
    obtain ⟨rfl, D7⟩ := hcut
    clear D4
    go_wp2_with fail
    refine region_inv3 [(0, 15), (1, 16), (2, 17)]
      (fun j v W => match j with
        | 0 => IsIns v
        | 1 => Is (.pointer (some ⟨R, 0, none⟩)) v
        | 2 => StD (w.heap.size + 3) v W
        | _ => True)
      (fun L W => DS w R a m c z 700 3000 5 F L W ∧ (L 4 = true → (L 0 = true ∧ L 1 = true ∧ L 2 = true ∧ L 3 = true) ∧ StC (w.heap.size + 3) (w.heap.size + 1) W)) (K3 R w.heap.size (w.heap.size + 1))
      (by kernel_rfl) (by kernel_rfl) (by kernel_rfl) (by kernel_rfl) (by kernel_rfl) rfl ⟨DS.start D7.drew, fun h => by cases h⟩ ?_ ?_ ?_
    · intro i j v W W' hji hφ hT
      match j, hφ with
      | 0, hφ => exact hφ
      | 1, hφ => exact hφ
      | 2, hφ => exact hφ.next hT (by omega) (by omega) (by omega)
      | 3, hφ => exact hφ
      | 4, hφ => exact hφ
      | _ + 5, _ => trivial
    · intro i L vals W hi' hφ hSS hL hd
      obtain ⟨hS, h4⟩ := hSS
      have hi2 : i < 5 := hi'
      clear hi'
      have hbd := DS.bd (K := 3000) (n := 5) (L := L)
      obtain ⟨p', hp', hr⟩ := hS.rd
      have hrs := hr.size
      have hno : i < 4 → L 4 = false := fun hi => by
        cases h : L 4 with
        | false => rfl
        | true =>
          obtain ⟨⟨q0, q1, q2, q3⟩, _⟩ := h4 h
          rcases (show i = 0 ∨ i = 1 ∨ i = 2 ∨ i = 3 by omega) with rfl | rfl | rfl | rfl <;> simp_all
      have hkeep : ∀ W', i < 4 → (upd L i true 4 = true → (upd L i true 0 = true ∧ upd L i true 1 = true ∧ upd L i true 2 = true ∧ upd L i true 3 = true) ∧ StC (w.heap.size + 3) (w.heap.size + 1) W') := fun W' hi h => by
        rw [upd_other _ _ (by omega), hno hi] at h
        cases h
      rcases (show i = 0 ∨ i = 1 ∨ i = 2 ∨ i = 3 ∨ i = 4 by omega) with rfl | rfl | rfl | rfl | rfl
      · obtain ⟨s0, s1, s2, s3, s4, s5, s6, s7, ⟨b0, b1, b2, b3, b4, b5, b6, b7⟩, ⟨j0, j1, j2, j3, j4, j5, j6, j7⟩⟩ := Dr.at8 hS mX
        refine wpAt_of rfl rfl ?_
        simp only [frOf, Act.put]
        go_wp2_with fail
        first | exact ⟨trivial, ⟨_, _, _, _, _, _, _, _, rfl, j0, j1, j2, j3, j4, j5, j6, j7⟩, K3.refl _ _ _ _ _, hS.pure hL (by decide), hkeep _ (by decide)⟩ | exact ⟨⟨_, _, _, _, _, _, _, _, rfl, j0, j1, j2, j3, j4, j5, j6, j7⟩, K3.refl _ _ _ _ _, hS.pure hL (by decide), hkeep _ (by decide)⟩
      · refine wpAt_of rfl rfl ?_
        simp only [frOf, Act.put]
        go_wp2_with fail
        first | exact ⟨trivial, rfl, K3.refl _ _ _ _ _, hS.pure hL (by decide), hkeep _ (by decide)⟩ | exact ⟨rfl, K3.refl _ _ _ _ _, hS.pure hL (by decide), hkeep _ (by decide)⟩
      · have k1 : vals 1 = .pointer (some ⟨R, 0, none⟩) := hφ 1 (hd 1 (by decide))
        refine wpAt_of rfl rfl ?_
        simp only [frOf, Act.put]
        go_wp2_with fail
        refine (stateD R a m c z p' 12 _ hr (by omega) (by omega)).mono ?_
        rintro e W' ⟨on, aa, g, n, cp, zs, sx, sy, p2, rfl, hn4, _, _, ha, hc, hp2, hR', g'⟩
        go_wp2_with fail
        have hv : StD (w.heap.size + 3) (.agg #[.bool on, .slice aa n cp, .int .i64 sx, .int .i64 sy]) W' := ⟨on, aa, g, n, cp, zs, sx, sy, rfl, hn4, fun hn => ⟨(ha hn).1, by have := (ha hn).2.1; omega, (ha hn).2.2⟩, fun j hj => (hc j hj).1⟩
        first | exact ⟨trivial, hv, K3.of g', DS.call hS hL (by decide) hR' g' (by omega), hkeep _ (by decide)⟩ | exact ⟨hv, K3.of g', DS.call hS hL (by decide) hR' g' (by omega), hkeep _ (by decide)⟩
      · obtain ⟨o0_0, o0_1, o0_2, o0_3, o0_4, o0_5, o0_6, o0_7, k0, i0_0, i0_1, i0_2, i0_3, i0_4, i0_5, i0_6, i0_7⟩ : IsIns (vals 0) := hφ 0 (hd 0 (by decide))
        obtain ⟨y0, y1, y2, y3, y4, y5, y6, y7, ⟨c0, c1, c2, c3, c4, c5, c6, c7⟩, _⟩ := Dr.at8 hS mO
        obtain ⟨f0, f1, f2, f3, f4, f5, f6, f7⟩ := Dr.free8 hS mO
        refine wpAt_none rfl rfl ?_
        simp only [frOf, Act.put]
        go_wp2_with fail
        have hS' := DS.set8 hS hL (by decide) ho hOR (Nat.le_refl _) hFO ⟨_, rfl, i0_0⟩ ⟨_, rfl, i0_1⟩ ⟨_, rfl, i0_2⟩ ⟨_, rfl, i0_3⟩ ⟨_, rfl, i0_4⟩ ⟨_, rfl, i0_5⟩ ⟨_, rfl, i0_6⟩ ⟨_, rfl, i0_7⟩
        first | exact ⟨trivial, trivial, K3.set8, hS', hkeep _ (by decide)⟩ | exact ⟨trivial, K3.set8, hS', hkeep _ (by decide)⟩ | exact ⟨K3.set8, hS', hkeep _ (by decide)⟩
      · have hv : StD (w.heap.size + 3) (vals 2) W := hφ 2 (hd 2 (by decide))
        obtain ⟨on, aa, g, n, cp, zs, sx, sy, k2, hn4, ha, hc⟩ := hv
        have hd0 := hd 0 (by decide)
        have hd1 := hd 1 (by decide)
        have hd2 := hd 2 (by decide)
        have hd3 := hd 3 (by decide)
        obtain ⟨q0, c0, _⟩ := Dr.has hS (mU 0 (by decide))
        obtain ⟨q1, c1, _⟩ := Dr.has hS (mU 1 (by decide))
        obtain ⟨q2, c2, _⟩ := Dr.has hS (mU 2 (by decide))
        obtain ⟨q3, c3, _⟩ := Dr.has hS (mU 3 (by decide))
        have f0 := Dr.free hS (mU 0 (by decide))
        have f1 := Dr.free hS (mU 1 (by decide))
        have f2 := Dr.free hS (mU 2 (by decide))
        have f3 := Dr.free hS (mU 3 (by decide))
        obtain ⟨e0, e1, e2, e3⟩ := own4q c0 c1 c2 c3
        have hs := (((DS.set hS ho hUR (by omega) (i := 0) (v := .bool on) (hFU _ _)).set ho hUR (by omega) (i := 1) (v := .slice aa n cp) (hFU _ _)).set ho hUR (by omega) (i := 2) (v := .int .i64 sx) (hFU _ _)).set ho hUR (by omega) (i := 3) (v := .int .i64 sy) (hFU _ _)
        have hk : K3 R w.heap.size (w.heap.size + 1) 4 W _ := K3.set4 (v0 := .bool on) (v1 := .slice aa n cp) (v2 := .int .i64 sx) (v3 := .int .i64 sy)
        have hv : StD (w.heap.size + 3) (.agg #[.bool on, .slice aa n cp, .int .i64 sx, .int .i64 sy]) W := ⟨on, aa, g, n, cp, zs, sx, sy, rfl, hn4, ha, hc⟩
        have hv' := hv.next hk (by omega) (by omega) (by omega)
        refine wpAt_none rfl rfl ?_
        simp only [frOf, Act.put]
        go_wp2_with fail
        have hC : StC (w.heap.size + 3) (w.heap.size + 1) ((((W.setCell ⟨w.heap.size + 1, 0, none⟩ (.bool on)).setCell ⟨w.heap.size + 1, 1, none⟩ (.slice aa n cp)).setCell ⟨w.heap.size + 1, 2, none⟩ (.int .i64 sx)).setCell ⟨w.heap.size + 1, 3, none⟩ (.int .i64 sy)) := by
          refine ⟨on, _, _, _, ?_, ?_, ?_, e3 _ _ _ _, hv'⟩
          · rw [World.cell?_setCell_other _ _ _ _ (by simp), World.cell?_setCell_other _ _ _ _ (by simp), World.cell?_setCell_other _ _ _ _ (by simp)]
            exact e0 _
          · rw [World.cell?_setCell_other _ _ _ _ (by simp), World.cell?_setCell_other _ _ _ _ (by simp)]
            exact e1 _ _
          · rw [World.cell?_setCell_other _ _ _ _ (by simp)]
            exact e2 _ _ _
        have hC' : upd L 4 true 4 = true → (upd L 4 true 0 = true ∧ upd L 4 true 1 = true ∧ upd L 4 true 2 = true ∧ upd L 4 true 3 = true) ∧ StC (w.heap.size + 3) (w.heap.size + 1) _ := fun _ => ⟨⟨upd_up hd0, upd_up hd1, upd_up hd2, upd_up hd3⟩, hC⟩
        exact ⟨hs.pure hL (by decide), hC'⟩
    · intro L vals W hall hφ hSS
      have hS := hSS.1.done
      obtain ⟨on, sv, xv, yv, u0, u1, u2, u3, hv⟩ := (hSS.2 (hall 4 (by decide))).2
      clear hSS hφ
      simp only [frOf, Act.put, List.setIfInBounds_toArray, List.set_cons_succ, List.set_cons_zero]
      obtain ⟨s0, s1, s2, s3, s4, s5, s6, s7, ⟨e0, e1, e2, e3, e4, e5, e6, e7⟩, hI⟩ := hS.at8 mO
      have bE := hS.below0 hRw
      obtain ⟨_, aa, g, n, cp, zs, sx, sy, hq, hn4, ha, hc⟩ := hv
      simp at hq
      obtain ⟨_, rfl, rfl, rfl⟩ := hq
      go_wp2_with fail
      exact bodyPost_ret (v := .tuple #[.agg #[.int .i64 s0, .int .i64 s1, .int .i64 s2, .int .i64 s3, .int .i64 s4, .int .i64 s5, .int .i64 s6, .int .i64 s7], .agg #[.bool on, .slice aa n cp, .int .i64 sx, .int .i64 sy]]) (by simp [results, Try.results6, go_sem, e0, e1, e2, e3, e4, e5, e6, e7, u0, u1, u2, u3]) rfl ⟨s0, s1, s2, s3, s4, s5, s6, s7, _, hI, ⟨on, aa, g, n, cp, zs, sx, sy, rfl, hn4, fun hn => ⟨(ha hn).1, by have := (ha hn).2.1; omega, (ha hn).2.2⟩, hc⟩, rfl, bE⟩
end Go.Proofs.Ytehcfiihfdgokaa
