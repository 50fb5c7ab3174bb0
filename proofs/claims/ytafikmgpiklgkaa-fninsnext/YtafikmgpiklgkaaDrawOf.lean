/- What the drawing of a number of bounds, and of bounds and a number, answers over a reader. -/
import Derived.Test.YtafikmgpiklgkaaDrawSt
namespace Go.Proofs.Ytafikmgpiklgkaa
open Go.ChangeShapes Go.WideShapes Go.ChangeAt Go.RowKit

theorem old_of {w : World} {a : Option Addr} {len cap m : Nat} {z : Nat → Int} (h : Bytes w a len cap z) (hm : m ≤ len) : Old w a m := by
  rcases h with h0 | ⟨b, off, rfl, hb, _, _⟩
  · exact .inl (by omega)
  · exact .inr fun b' off' e => by injection e with e; injection e with e; omega
set_option maxHeartbeats 1000000 in
theorem openS2 (a : Option Addr) (len cap : Nat) (z : Nat → Int) (w : World) (hz : ∀ i, 0 ≤ z i ∧ z i ≤ 255) (hl : len ≤ 1048576) (h : Bytes w a len cap z) :
    Calls Try.prog 11 #[.slice a len cap] w fun e w' => ∃ m c, m ≤ len ∧ e = .returned (.pointer (some ⟨w.heap.size, 0, none⟩)) ∧ Rd w' w.heap.size a m c z 0 ∧ w.grownBy w' none := by
  by_cases h2 : len ≤ 2000
  · go_enter Try.func11, Try.ntmps11
    go_wp2_with fail
    go_ret
    exact ⟨len, cap, Nat.le_refl _, rfl, rd_new w a len cap len cap z hz h (Nat.le_refl _) h2, World.grownBy_alloc _ _ _⟩
  · have h' := h
    rcases h' with h0 | ⟨b, off, rfl, hb, hlc, hc⟩
    · omega
    have i1 : (2000 : Int) < (len : Int) := by omega
    have i2 : (2000 : Int) ≤ (cap : Int) := by omega
    go_enter Try.func11, Try.ntmps11
    go_wp2_with fail
    go_ret
    exact ⟨2000, cap, by omega, rfl, rd_new w _ len cap 2000 cap z hz h (by omega) (by omega), World.grownBy_alloc _ _ _⟩
/-- What is known where a reader was opened behind memory that was made: one block of two ints. -/
theorem dr_open {w w1 : World} {a : Option Addr} {m c : Nat} {z : Nat → Int} {x y : Int} {t : TypeId} (hx : I64 x) (hy : I64 y) (h1 : Rd w1 (w.alloc (.cells #[.int .i64 x, .int .i64 y] t)).heap.size a m c z 0) (g1 : (w.alloc (.cells #[.int .i64 x, .int .i64 y] t)).grownBy w1 none) : Dr w (w.heap.size + 1) a m c z 0 [⟨w.heap.size, 0, IsI⟩, ⟨w.heap.size, 1, IsI⟩] w1 := by
  have e : (w.alloc (.cells #[.int .i64 x, .int .i64 y] t)).heap.size = w.heap.size + 1 := by simp
  rw [e] at h1
  have g2 : (w.alloc (.cells #[.int .i64 x, .int .i64 y] t)).grownBy w1 (some (w.heap.size + 1)) := ⟨g1.os, g1.tape, g1.output, g1.size, fun k hk _ => g1.block k hk (by simp)⟩
  refine ⟨⟨0, Nat.le_refl _, h1⟩, grown_trans (World.grownBy_alloc _ _ _) g2, ?_⟩
  refine Fs.next ?_ g2
  refine Fs.cons (by show w.heap.size ≠ _; omega) (Nat.le_refl _) (by show w.heap.size < _; simp) (by simp [go_sem]) (v := .int .i64 x) (by simp [go_sem]) ⟨x, rfl, hx⟩ ?_
  exact Fs.cons (by show w.heap.size ≠ _; omega) (Nat.le_refl _) (by show w.heap.size < _; simp) (by simp [go_sem]) (v := .int .i64 y) (by simp [go_sem]) ⟨y, rfl, hy⟩ (Fs.nil _ _ _)
theorem Dr.below0 {w : World} {R : Nat} {a : Option Addr} {m c : Nat} {z : Nat → Int} {Q : Nat} {F : List Sp} {W : World} (h : Dr w R a m c z Q F W) (hR : w.heap.size ≤ R) : Below w.heap.size w W := below_at (Below.refl _ _) h.grown hR
def Bo (v : Value) : Prop := ∃ t, v = .bool t

end Go.Proofs.Ytafikmgpiklgkaa
