/- What the drawing functions answer over a reader (Rd): l20Num a number of -32768..32767, l20Raw some int, odd some bool, l20NumOr some int, l20Open a new reader at place 0. Conditions: a place far below 1000000; at most 1048576 bytes come in. -/
import Derived.Test.YtiehokibfdaleaaReader
import Derived.WalkKit
import Derived.ProofKit
import Derived.OpenShut
import Derived.Below
namespace Go.Proofs.Ytiehokibfdaleaa
open Go.ChangeShapes Go.WideShapes Go.ChangeAt Go.RowKit

def inTab (lo hi : Int) : Value → Bool
  | .int .i64 v => decide (lo ≤ v) && decide (v ≤ hi)
  | _ => false

theorem inTab_int {lo hi : Int} {v : Value} (h : inTab lo hi v = true) : ∃ n : Int, v = .int .i64 n ∧ lo ≤ n ∧ n ≤ hi := by
  unfold inTab at h
  split at h
  · rename_i n
    simp at h
    exact ⟨n, rfl, h.1, h.2⟩
  · cases h

theorem cell_new (w : World) (cs : Array Value) (t : TypeId) (k : Nat) (h : k < cs.size) : (w.alloc (.cells cs t)).cell? ⟨w.heap.size, k, none⟩ = some cs[k] := by
  unfold World.cell?
  rw [heap_alloc_new]
  simp [h]

theorem tab_cell {w1 w2 : World} {cs : Array Value} {t : TypeId} {R : Nat} {lo hi : Int} (hall : ∀ k (h : k < cs.size), inTab lo hi cs[k] = true)
    (g : (w1.alloc (.cells cs t)).grownBy w2 (some R)) (hR : R < w1.heap.size) (k : Nat) (hk : k < cs.size) :
    ∃ n : Int, w2.cell? ⟨w1.heap.size, k, none⟩ = some (.int .i64 n) ∧ lo ≤ n ∧ n ≤ hi := by
  obtain ⟨n, e, h1, h2⟩ := inTab_int (hall k hk)
  have hc := g.cell (cell_new w1 cs t k hk) (by simp; omega)
  rw [e] at hc
  exact ⟨n, hc, h1, h2⟩

theorem all_of {cs : Array Value} {lo hi : Int} (h : cs.toList.all (inTab lo hi) = true) : ∀ k (h : k < cs.size), inTab lo hi cs[k] = true := by
  intro k hk
  rw [List.all_eq_true] at h
  exact h _ (by simp)

set_option maxHeartbeats 1000000 in
theorem numS (R : Nat) (a : Option Addr) (m c : Nat) (z : Nat → Int) (p : Nat) (w : World) (h : Rd w R a m c z p) (hp : p < 900000) :
    Calls Try.prog 44 #[.pointer (some ⟨R, 0, none⟩)] w fun e w' => ∃ (x : Int) (p' : Nat), -32768 ≤ x ∧ x ≤ 32767 ∧ e = .returned (.int .i64 x) ∧ p' ≤ p + 3 ∧ Rd w' R a m c z p' ∧ w.grownBy w' (some R) := by
  go_enter Try.func44, Try.ntmps44
  go_wp2_with fail
  refine (pick R a m c z p 4 _ h (by omega) (by omega) (by omega)).mono ?_
  rintro e w1 ⟨x, hx1, hx2, rfl, h1, g1⟩
  obtain rfl | rfl | rfl | rfl : x = 0 ∨ x = 1 ∨ x = 2 ∨ x = 3 := by omega
  · go_wp2_with fail
    refine (pick R a m c z (p + 1) 9 _ (h1.kept (World.grownBy_alloc _ _ none) (by simp)) (by omega) (by omega) (by omega)).mono ?_
    rintro e w2 ⟨y, hy1, hy2, rfl, h2, g2⟩
    obtain ⟨k, rfl⟩ := Int.eq_ofNat_of_zero_le hy1
    obtain ⟨v, hv, hv1, hv2⟩ := tab_cell (lo := -32768) (hi := 32767) (all_of rfl) g2 h1.size k (by simp; omega)
    go_wp2_with fail
    go_ret
    exact ⟨v, p + 2, hv1, hv2, rfl, by omega, h2, grown_trans g1 (grown_trans (World.grownBy_alloc _ _ _) g2)⟩
  · go_wp2_with fail
    refine (pick R a m c z (p + 1) 12 _ h1 (by omega) (by omega) (by omega)).mono ?_
    rintro e w2 ⟨y, hy1, hy2, rfl, h2, g2⟩
    go_wp2_with fail
    go_ret
    exact ⟨y - 4, p + 2, by omega, by omega, rfl, by omega, h2, grown_trans g1 g2⟩
  · go_wp2_with fail
    refine (pick R a m c z (p + 1) 9 _ (h1.kept (World.grownBy_alloc _ _ none) (by simp)) (by omega) (by omega) (by omega)).mono ?_
    rintro e w2 ⟨y, hy1, hy2, rfl, h2, g2⟩
    obtain ⟨k, rfl⟩ := Int.eq_ofNat_of_zero_le hy1
    obtain ⟨v, hv, hv1, hv2⟩ := tab_cell (lo := -32768) (hi := 32767) (all_of rfl) g2 h1.size k (by simp; omega)
    go_wp2_with fail
    go_ret
    exact ⟨v, p + 2, hv1, hv2, rfl, by omega, h2, grown_trans g1 (grown_trans (World.grownBy_alloc _ _ _) g2)⟩
  · go_wp2_with fail
    refine (pick R a m c z (p + 1) 256 _ h1 (by omega) (by omega) (by omega)).mono ?_
    rintro e w2 ⟨y, hy1, hy2, rfl, h2, g2⟩
    go_wp2_with fail
    refine (pick R a m c z (p + 2) 256 _ h2 (by omega) (by omega) (by omega)).mono ?_
    rintro e w3 ⟨y', hz1, hz2, rfl, h3, g3⟩
    go_wp2_with fail
    go_ret
    exact ⟨y * 256 + y' - 32768, p + 3, by omega, by omega, rfl, by omega, h3, grown_trans g1 (grown_trans g2 g3)⟩

set_option maxHeartbeats 1000000 in
theorem oddS (R : Nat) (a : Option Addr) (m c : Nat) (z : Nat → Int) (p : Nat) (n : Int) (w : World) (h : Rd w R a m c z p) (hp : p < 900000) (hn : 1 ≤ n) (hn2 : n < 9000) :
    Calls Try.prog 35 #[.pointer (some ⟨R, 0, none⟩), .int .i64 n] w fun e w' => ∃ b : Bool, e = .returned (.bool b) ∧ Rd w' R a m c z (p + 1) ∧ w.grownBy w' (some R) := by
  go_enter Try.func35, Try.ntmps35
  go_wp2_with fail
  refine (pick R a m c z p n _ h (by omega) (by omega) (by omega)).mono ?_
  rintro e w1 ⟨x, hx1, hx2, rfl, h1, g1⟩
  go_wp2_with fail
  go_ret
  exact ⟨_, rfl, h1, g1⟩

set_option maxHeartbeats 1000000 in
theorem rawS (R : Nat) (a : Option Addr) (m c : Nat) (z : Nat → Int) (p : Nat) (w : World) (h : Rd w R a m c z p) (hp : p < 800000) :
    Calls Try.prog 37 #[.pointer (some ⟨R, 0, none⟩)] w fun e w' => ∃ (x : Int) (p' : Nat), -9223372036854775808 ≤ x ∧ x ≤ 9223372036854775807 ∧ e = .returned (.int .i64 x) ∧ p' ≤ p + 5 ∧ Rd w' R a m c z p' ∧ w.grownBy w' (some R) := by
  go_enter Try.func37, Try.ntmps37
  go_wp2_with fail
  refine (pick R a m c z p 4 _ h (by omega) (by omega) (by omega)).mono ?_
  rintro e w1 ⟨x, hx1, hx2, rfl, h1, g1⟩
  obtain rfl | rfl | h23 : x = 0 ∨ x = 1 ∨ 2 ≤ x := by omega
  · go_wp2_with fail
    refine (pick R a m c z (p + 1) 8 _ (h1.kept (World.grownBy_alloc _ _ none) (by simp)) (by omega) (by omega) (by omega)).mono ?_
    rintro e w2 ⟨y, hy1, hy2, rfl, h2, g2⟩
    obtain ⟨k, rfl⟩ := Int.eq_ofNat_of_zero_le hy1
    obtain ⟨v, hv, hv1, hv2⟩ := tab_cell (lo := -9223372036854775808) (hi := 9223372036854775807) (all_of rfl) g2 h1.size k (by simp; omega)
    go_wp2_with fail
    go_ret
    exact ⟨v, p + 2, hv1, hv2, rfl, by omega, h2, grown_trans g1 (grown_trans (World.grownBy_alloc _ _ _) g2)⟩
  · go_wp2_with fail
    refine (numS R a m c z (p + 1) _ h1 (by omega)).mono ?_
    rintro e w2 ⟨y, p2, hy1, hy2, rfl, hp2, h2, g2⟩
    go_wp2_with fail
    refine (pick R a m c z p2 4 _ (h2.kept (World.grownBy_alloc _ _ none) (by simp)) (by omega) (by omega) (by omega)).mono ?_
    rintro e w3 ⟨u, hu1, hu2, rfl, h3, g3⟩
    obtain ⟨k, rfl⟩ := Int.eq_ofNat_of_zero_le hu1
    obtain ⟨v, hv, hv1, hv2⟩ := tab_cell (lo := 1) (hi := 65536) (all_of rfl) g3 h2.size k (by simp; omega)
    have hb1 : -2147483648 ≤ y * v ∧ y * v ≤ 2147483648 := by
      have hn : (y * v).natAbs ≤ 32768 * 65536 := by rw [Int.natAbs_mul]; exact Nat.mul_le_mul (by omega) (by omega)
      omega
    obtain ⟨hb2, hb3⟩ := hb1
    go_wp2_with fail
    go_ret
    exact ⟨y * v, p2 + 1, by omega, by omega, rfl, by omega, h3, grown_trans g1 (grown_trans g2 (grown_trans (World.grownBy_alloc _ _ _) g3))⟩
  · have e0 : (x == 0) = false := by simp; omega
    have e1 : (x == 1) = false := by simp; omega
    go_wp2_with fail
    refine (numS R a m c z (p + 1) _ h1 (by omega)).mono ?_
    rintro e w2 ⟨y, p2, hy1, hy2, rfl, hp2, h2, g2⟩
    go_wp2_with fail
    go_ret
    exact ⟨y, p2, by omega, by omega, rfl, by omega, h2, grown_trans g1 g2⟩

/-- Bytes that came in: none, or a row of cells. -/
def Bytes (w : World) (a : Option Addr) (len cap : Nat) (z : Nat → Int) : Prop :=
  len = 0 ∨ ∃ b off, a = some ⟨b, off, none⟩ ∧ b < w.heap.size ∧ len ≤ cap ∧ ∀ i, i < len → w.cell? ⟨b, off + i, none⟩ = some (.int .u8 (z i))

theorem bytes_of {w : World} {x : Addr} {len cap : Nat} {zs : List Int} (hl : len ≤ cap) (hz : zs.length = cap)
    (hcell : ∀ i, i < zs.length → w.cell? (x.add i) = some (.int .u8 (zs.getD i 0))) (hwz : ∀ n ∈ zs, (Lit.int .u8 n).wf = true) :
    ∃ z : Nat → Int, (∀ i, 0 ≤ z i ∧ z i ≤ 255) ∧ Bytes w (some x) len cap z := by
  by_cases h0 : len = 0
  · exact ⟨fun _ => 0, fun _ => by simp, .inl h0⟩
  · obtain ⟨b, off, spot⟩ := x
    have hc := hcell 0 (by omega)
    have hspot : spot = none := by simpa [Addr.add] using World.cell?_spot hc
    subst hspot
    refine ⟨fun i => zs.getD i 0, fun i => ?_, .inr ⟨b, off, rfl, World.block_lt_of_cell? w _ hc, hl, fun i hi => ?_⟩⟩
    · show 0 ≤ zs.getD i 0 ∧ zs.getD i 0 ≤ 255
      by_cases hi : i < zs.length
      · have hw := hwz (zs.getD i 0) (by rw [List.getD_eq_getElem?_getD, List.getElem?_eq_getElem hi]; exact List.getElem_mem hi)
        simpa [Lit.wf, IntKind.min, IntKind.max, IntKind.signed, IntKind.bits] using hw
      · rw [List.getD_eq_getElem?_getD, List.getElem?_eq_none (by omega)]; decide
    · have hci := hcell i (by omega)
      by_cases h1 : i = 0
      · subst h1; simpa [Addr.add] using hci
      · simpa [Addr.add, h1] using hci

theorem Bytes.kept {w w' : World} {a : Option Addr} {len cap : Nat} {z : Nat → Int} (h : Bytes w a len cap z) (hb : Below w.heap.size w w') : Bytes w' a len cap z := by
  rcases h with h0 | ⟨b, off, e, hlt, hl, hc⟩
  · exact .inl h0
  · exact .inr ⟨b, off, e, Nat.lt_of_lt_of_le hlt hb.size, hl, fun i hi => (hb.cell (p := ⟨b, off + i, none⟩) hlt).trans (hc i hi)⟩

theorem below_at {w w1 w2 : World} {R : Nat} (b : Below w.heap.size w w1) (g : w1.grownBy w2 (some R)) (hR : w.heap.size ≤ R) : Below w.heap.size w w2 :=
  b.grown g b.size (fun k e => by cases e; exact hR)

theorem rd_new (w : World) (a : Option Addr) (len cap m c : Nat) (z : Nat → Int) (hz : ∀ i, 0 ≤ z i ∧ z i ≤ 255) (h : Bytes w a len cap z) (hm : m ≤ len) (hm2 : m ≤ 2000) :
    Rd (w.alloc (.cells #[.slice a m c, .int .i64 0] 75)) w.heap.size a m c z 0 := by
  refine ⟨by simp, ?_, ?_, ?_, hm2, hz, ?_⟩
  · exact cell_new w _ 75 0 (by simp)
  · exact cell_new w _ 75 1 (by simp)
  · rw [frozen?_alloc_cells]; simp [World.frozen?]
  · rcases h with h0 | ⟨b, off, e, hb, _, hc⟩
    · exact .inl (by omega)
    · refine .inr ⟨b, off, e, hb, fun i hi => ?_⟩
      rw [World.cell?_alloc_lt _ _ _ hb]
      exact hc i (by omega)

set_option maxHeartbeats 1000000 in
theorem openS (a : Option Addr) (len cap : Nat) (z : Nat → Int) (w : World) (hz : ∀ i, 0 ≤ z i ∧ z i ≤ 255) (hl : len ≤ 1048576) (h : Bytes w a len cap z) :
    Calls Try.prog 31 #[.slice a len cap] w fun e w' => ∃ m c, e = .returned (.pointer (some ⟨w.heap.size, 0, none⟩)) ∧ Rd w' w.heap.size a m c z 0 ∧ w.grownBy w' none := by
  by_cases h2 : len ≤ 2000
  · go_enter Try.func31, Try.ntmps31
    go_wp2_with fail
    go_ret
    exact ⟨len, cap, rfl, rd_new w a len cap len cap z hz h (Nat.le_refl _) h2, World.grownBy_alloc _ _ _⟩
  · have h' := h
    rcases h' with h0 | ⟨b, off, rfl, hb, hlc, hc⟩
    · omega
    have i1 : (2000 : Int) < (len : Int) := by omega
    have i2 : (2000 : Int) ≤ (cap : Int) := by omega
    go_enter Try.func31, Try.ntmps31
    go_wp2_with fail

    go_ret
    exact ⟨2000, cap, rfl, rd_new w _ len cap 2000 cap z hz h (by omega) (by omega), World.grownBy_alloc _ _ _⟩

end Go.Proofs.Ytiehokibfdaleaa
