/- Two copies of one program are the same, to the laws. -/
import Derived.Test.YtdpkbbbfnmneiaaPrgTo2
import Derived.Deep.RegionHeld3
import Derived.Deep.DeepCutAuto
namespace Go.Proofs.Ytdpkbbbfnmneiaa
open Go.ChangeShapes Go.WideShapes Go.ChangeAt Go.RowKit

set_option maxHeartbeats 2000000 in
theorem eqIns (o d a b r l h t : Int) (w : World) :
    Calls Try.prog 126 #[.agg #[.int .i64 o, .int .i64 d, .int .i64 a, .int .i64 b, .int .i64 r, .int .i64 l, .int .i64 h, .int .i64 t], .agg #[.int .i64 o, .int .i64 d, .int .i64 a, .int .i64 b, .int .i64 r, .int .i64 l, .int .i64 h, .int .i64 t]] w fun e w' => e = .returned (.bool true) ∧ Below w.heap.size w w' := by
  go_enter Try.func126, Try.ntmps126
  go_wp2
  go_ret
  refine ⟨rfl, ?_⟩
  repeat (first | exact Below.refl _ _ | refine Below.drew ?_ | refine Below.alloc ?_ (by simp; try omega) _)

def E16 (w : World) (g h q : Nat) (x0 x1 x2 x3 x4 x5 x6 x7 : Value) (W : World) : Prop := W.cell? ⟨g, q, none⟩ = some x0 ∧ W.cell? ⟨g, q + 1, none⟩ = some x1 ∧ W.cell? ⟨g, q + 2, none⟩ = some x2 ∧ W.cell? ⟨g, q + 3, none⟩ = some x3 ∧ W.cell? ⟨g, q + 4, none⟩ = some x4 ∧ W.cell? ⟨g, q + 5, none⟩ = some x5 ∧ W.cell? ⟨g, q + 6, none⟩ = some x6 ∧ W.cell? ⟨g, q + 7, none⟩ = some x7 ∧ W.cell? ⟨h, q, none⟩ = some x0 ∧ W.cell? ⟨h, q + 1, none⟩ = some x1 ∧ W.cell? ⟨h, q + 2, none⟩ = some x2 ∧ W.cell? ⟨h, q + 3, none⟩ = some x3 ∧ W.cell? ⟨h, q + 4, none⟩ = some x4 ∧ W.cell? ⟨h, q + 5, none⟩ = some x5 ∧ W.cell? ⟨h, q + 6, none⟩ = some x6 ∧ W.cell? ⟨h, q + 7, none⟩ = some x7 ∧ Below w.heap.size w W
theorem E16.next {w : World} {g h q : Nat} {x0 x1 x2 x3 x4 x5 x6 x7 : Value} {W W' : World} (k : E16 w g h q x0 x1 x2 x3 x4 x5 x6 x7 W) (hg : g < w.heap.size ∧ h < w.heap.size) (hb : Below W.heap.size W W') : E16 w g h q x0 x1 x2 x3 x4 x5 x6 x7 W' := by
  have s := k.2.2.2.2.2.2.2.2.2.2.2.2.2.2.2.2.size
  have p : ∀ o, W'.cell? ⟨g, o, none⟩ = W.cell? ⟨g, o, none⟩ := fun o => hb.cell (p := ⟨g, o, none⟩) (show g < W.heap.size by omega)
  have r : ∀ o, W'.cell? ⟨h, o, none⟩ = W.cell? ⟨h, o, none⟩ := fun o => hb.cell (p := ⟨h, o, none⟩) (show h < W.heap.size by omega)
  obtain ⟨k0, k1, k2, k3, k4, k5, k6, k7, k8, k9, k10, k11, k12, k13, k14, k15, kb⟩ := k
  exact ⟨(p _).trans k0, (p _).trans k1, (p _).trans k2, (p _).trans k3, (p _).trans k4, (p _).trans k5, (p _).trans k6, (p _).trans k7, (r _).trans k8, (r _).trans k9, (r _).trans k10, (r _).trans k11, (r _).trans k12, (r _).trans k13, (r _).trans k14, (r _).trans k15, below_tr kb hb⟩
def E6 (w : World) (g h q : Nat) (x0 x1 x2 y2 : Value) (W : World) : Prop := W.cell? ⟨g, q, none⟩ = some x0 ∧ W.cell? ⟨g, q + 1, none⟩ = some x1 ∧ W.cell? ⟨g, q + 2, none⟩ = some x2 ∧ W.cell? ⟨h, q, none⟩ = some x0 ∧ W.cell? ⟨h, q + 1, none⟩ = some x1 ∧ W.cell? ⟨h, q + 2, none⟩ = some y2 ∧ Below w.heap.size w W
theorem E6.next {w : World} {g h q : Nat} {x0 x1 x2 y2 : Value} {W W' : World} (k : E6 w g h q x0 x1 x2 y2 W) (hg : g < w.heap.size ∧ h < w.heap.size) (hb : Below W.heap.size W W') : E6 w g h q x0 x1 x2 y2 W' := by
  have s := k.2.2.2.2.2.2.size
  have p : ∀ o, W'.cell? ⟨g, o, none⟩ = W.cell? ⟨g, o, none⟩ := fun o => hb.cell (p := ⟨g, o, none⟩) (show g < W.heap.size by omega)
  have r : ∀ o, W'.cell? ⟨h, o, none⟩ = W.cell? ⟨h, o, none⟩ := fun o => hb.cell (p := ⟨h, o, none⟩) (show h < W.heap.size by omega)
  obtain ⟨k0, k1, k2, k3, k4, k5, kb⟩ := k
  exact ⟨(p _).trans k0, (p _).trans k1, (p _).trans k2, (r _).trans k3, (r _).trans k4, (r _).trans k5, below_tr kb hb⟩

set_option maxRecDepth 10000 in
set_option maxHeartbeats 4000000 in
theorem eqInsS (g h n : Nat) (c : Nat → Nat → Int) (w : World) (hn : n ≤ 1048576) (hg : 0 < n → g < w.heap.size ∧ h < w.heap.size) (h1 : CodeAt (some ⟨g, 0, none⟩) g 0 n c w) (h2 : CodeAt (some ⟨h, 0, none⟩) h 0 n c w) :
    Calls Try.prog 115 #[.slice (some ⟨g, 0, none⟩) n n, .slice (some ⟨h, 0, none⟩) n n] w fun e w' => e = .returned (.bool true) ∧ Below w.heap.size w w' := by
  go_enter Try.func115, Try.ntmps115
  go_wp2
  go_loopw [5] (fun i wr => ∃ k : Nat, k ≤ n ∧ i = .int .i64 k ∧ Below w.heap.size w wr) (fun i _ => n - (intOf i).toNat)
  case atStart => exact ⟨0, Nat.zero_le _, rfl, Below.refl _ _⟩
  case round =>
    obtain ⟨k, hk, rfl, hB⟩ := hrel
    by_cases hlt : k < n
    · have hgg := hg (by omega)
      have H1 := h1.next hB
      have H2 := h2.next hB
      have d0 := H1.cell k 0 hlt (by omega)
      have f0 := H2.cell k 0 hlt (by omega)
      have d1 := H1.cell k 1 hlt (by omega)
      have f1 := H2.cell k 1 hlt (by omega)
      have d2 := H1.cell k 2 hlt (by omega)
      have f2 := H2.cell k 2 hlt (by omega)
      have d3 := H1.cell k 3 hlt (by omega)
      have f3 := H2.cell k 3 hlt (by omega)
      have d4 := H1.cell k 4 hlt (by omega)
      have f4 := H2.cell k 4 hlt (by omega)
      have d5 := H1.cell k 5 hlt (by omega)
      have f5 := H2.cell k 5 hlt (by omega)
      have d6 := H1.cell k 6 hlt (by omega)
      have f6 := H2.cell k 6 hlt (by omega)
      have d7 := H1.cell k 7 hlt (by omega)
      have f7 := H2.cell k 7 hlt (by omega)
      rw [Nat.add_zero] at d0 f0
      rw [Nat.zero_add] at d0 f0 d1 f1 d2 f2 d3 f3 d4 f4 d5 f5 d6 f6 d7 f7
      have E0 : E16 w g h (k * 8) (.int .i64 (c k 0)) (.int .i64 (c k 1)) (.int .i64 (c k 2)) (.int .i64 (c k 3)) (.int .i64 (c k 4)) (.int .i64 (c k 5)) (.int .i64 (c k 6)) (.int .i64 (c k 7)) wr.drew := ⟨d0, d1, d2, d3, d4, d5, d6, d7, f0, f1, f2, f3, f4, f5, f6, f7, hB.drew⟩
      have t1 : ((k : Int)).toNat = k := by omega
      have t2 : (0 : Int) ≤ (k : Int) := by omega
      have t3 : (k : Int) < (n : Int) := by omega
      clear h1 h2 H1 H2 hg
      go_wp2_with fail
      go_region_held3 (fun W => W.cell? ⟨g, k * 8, none⟩ = some (.int .i64 (c k 0)) ∧ W.cell? ⟨g, k * 8 + 1, none⟩ = some (.int .i64 (c k 1)) ∧ W.cell? ⟨g, k * 8 + 2, none⟩ = some (.int .i64 (c k 2)) ∧ W.cell? ⟨g, k * 8 + 3, none⟩ = some (.int .i64 (c k 3)) ∧ W.cell? ⟨g, k * 8 + 4, none⟩ = some (.int .i64 (c k 4)) ∧ W.cell? ⟨g, k * 8 + 5, none⟩ = some (.int .i64 (c k 5)) ∧ W.cell? ⟨g, k * 8 + 6, none⟩ = some (.int .i64 (c k 6)) ∧ W.cell? ⟨g, k * 8 + 7, none⟩ = some (.int .i64 (c k 7)) ∧ W.cell? ⟨h, k * 8, none⟩ = some (.int .i64 (c k 0)) ∧ W.cell? ⟨h, k * 8 + 1, none⟩ = some (.int .i64 (c k 1)) ∧ W.cell? ⟨h, k * 8 + 2, none⟩ = some (.int .i64 (c k 2)) ∧ W.cell? ⟨h, k * 8 + 3, none⟩ = some (.int .i64 (c k 3)) ∧ W.cell? ⟨h, k * 8 + 4, none⟩ = some (.int .i64 (c k 4)) ∧ W.cell? ⟨h, k * 8 + 5, none⟩ = some (.int .i64 (c k 5)) ∧ W.cell? ⟨h, k * 8 + 6, none⟩ = some (.int .i64 (c k 6)) ∧ W.cell? ⟨h, k * 8 + 7, none⟩ = some (.int .i64 (c k 7)) ∧ Below w.heap.size w W) (first | exact E0 | exact E16.next (by assumption) hgg hb | go_keep) (first | (go_at_call 126; refine (eqIns _ _ _ _ _ _ _ _ _).mono ?_; rintro e w1 ⟨rfl, hb⟩))
      have hB1 := below_tr hB.drew hb
      go_wp2_with fail
      go_roundw
      case rel => exact ⟨k + 1, by omega, by go_num, hB1⟩
      case measure => simp [intOf]; omega
    · obtain rfl : k = n := by omega
      clear h1 h2 hg
      go_wp2_with fail
      go_ret
      exact ⟨rfl, hB⟩

set_option maxHeartbeats 2000000 in
theorem eqProc (lo hi : Int) (g h n : Nat) (c : Nat → Nat → Int) (w : World) (hn : n ≤ 1048576) (hg : 0 < n → g < w.heap.size ∧ h < w.heap.size) (h1 : CodeAt (some ⟨g, 0, none⟩) g 0 n c w) (h2 : CodeAt (some ⟨h, 0, none⟩) h 0 n c w) :
    Calls Try.prog 93 #[.agg #[.int .i64 lo, .int .i64 hi, .slice (some ⟨g, 0, none⟩) n n], .agg #[.int .i64 lo, .int .i64 hi, .slice (some ⟨h, 0, none⟩) n n]] w fun e w' => e = .returned (.bool true) ∧ Below w.heap.size w w' := by
  have b0 : Below w.heap.size w ((w.alloc (.cells #[.int .i64 lo, .int .i64 hi, .slice (some ⟨g, 0, none⟩) n n] 89)).alloc (.cells #[.int .i64 lo, .int .i64 hi, .slice (some ⟨h, 0, none⟩) n n] 89)) := by
    repeat (first | exact Below.refl _ _ | refine Below.alloc ?_ (by simp; try omega) _)
  have H1 := h1.next b0
  have H2 := h2.next b0
  have G := fun h0 => (show g < ((w.alloc (.cells #[.int .i64 lo, .int .i64 hi, .slice (some ⟨g, 0, none⟩) n n] 89)).alloc (.cells #[.int .i64 lo, .int .i64 hi, .slice (some ⟨h, 0, none⟩) n n] 89)).heap.size ∧ h < ((w.alloc (.cells #[.int .i64 lo, .int .i64 hi, .slice (some ⟨g, 0, none⟩) n n] 89)).alloc (.cells #[.int .i64 lo, .int .i64 hi, .slice (some ⟨h, 0, none⟩) n n] 89)).heap.size by have := hg h0; simp; omega)
  clear h1 h2 hg
  go_enter Try.func93, Try.ntmps93
  go_wp2_with fail
  refine (eqInsS _ _ _ _ _ hn G H1 H2).mono ?_
  rintro e w1 ⟨rfl, hb⟩
  clear H1 H2 G
  go_wp2_with fail
  go_ret
  exact ⟨rfl, below_tr b0 hb⟩

set_option maxRecDepth 10000 in
set_option maxHeartbeats 4000000 in
theorem eqProcs (g h m : Nat) (P : Nat → Proc) (S R : Nat → Spot) (w : World) (hm : m ≤ 1048576) (hn : ∀ i, i < m → (P i).n ≤ 1048576) (hg : g < w.heap.size ∧ h < w.heap.size) (h1 : ProcsAt (some ⟨g, 0, none⟩) g 0 m P S w) (h2 : ProcsAt (some ⟨h, 0, none⟩) h 0 m P R w) (hS : Copy S P m) (hR : Copy R P m) :
    Calls Try.prog 53 #[.slice (some ⟨g, 0, none⟩) m m, .slice (some ⟨h, 0, none⟩) m m] w fun e w' => e = .returned (.bool true) ∧ Below w.heap.size w w' := by
  go_enter Try.func53, Try.ntmps53
  go_wp2
  go_loopw [5] (fun i wr => ∃ k : Nat, k ≤ m ∧ i = .int .i64 k ∧ Below w.heap.size w wr) (fun i _ => m - (intOf i).toNat)
  case atStart => exact ⟨0, Nat.zero_le _, rfl, Below.refl _ _⟩
  case round =>
    obtain ⟨k, hk, rfl, hB⟩ := hrel
    by_cases hlt : k < m
    · have H1 := h1.next hB.drew
      have H2 := h2.next hB.drew
      have d0 := H1.lo k hlt
      have d1 := H1.hi k hlt
      have d2 := H1.code k hlt
      have f0 := H2.lo k hlt
      have f1 := H2.hi k hlt
      have f2 := H2.code k hlt
      have C1 := H1.steps k hlt
      have C2 := H2.steps k hlt
      rw [hS k hlt] at d2 C1
      rw [hR k hlt] at f2 C2
      rw [Nat.zero_add] at d0 d1 d2 f0 f1 f2
      have hn' := hn k hlt
      have hgg : 0 < (P k).n → (S k).b < wr.drew.heap.size ∧ (R k).b < wr.drew.heap.size := fun h0 => ⟨C1.lt h0, C2.lt h0⟩
      have E0 : E6 w g h (k * 3) (.int .i64 (P k).lo) (.int .i64 (P k).hi) (.slice (some ⟨(S k).b, 0, none⟩) (P k).n (P k).n) (.slice (some ⟨(R k).b, 0, none⟩) (P k).n (P k).n) wr.drew := ⟨d0, d1, d2, f0, f1, f2, hB.drew⟩
      have t1 : ((k : Int)).toNat = k := by omega
      have t2 : (0 : Int) ≤ (k : Int) := by omega
      have t3 : (k : Int) < (m : Int) := by omega
      clear h1 h2 H1 H2 hS hR hn
      generalize (P k).lo = lo at d0 f0 E0
      generalize (P k).hi = hi at d1 f1 E0
      generalize (P k).n = n at d2 f2 E0 C1 C2 hn' hgg
      generalize (P k).c = c at C1 C2
      generalize (S k).b = sb at d2 E0 C1 hgg
      generalize (R k).b = rb at f2 E0 C2 hgg
      go_wp2_with fail
      go_region_held3 (fun W => W.cell? ⟨g, k * 3, none⟩ = some (.int .i64 lo) ∧ W.cell? ⟨g, k * 3 + 1, none⟩ = some (.int .i64 hi) ∧ W.cell? ⟨g, k * 3 + 2, none⟩ = some (.slice (some ⟨sb, 0, none⟩) n n) ∧ W.cell? ⟨h, k * 3, none⟩ = some (.int .i64 lo) ∧ W.cell? ⟨h, k * 3 + 1, none⟩ = some (.int .i64 hi) ∧ W.cell? ⟨h, k * 3 + 2, none⟩ = some (.slice (some ⟨rb, 0, none⟩) n n) ∧ Below w.heap.size w W) (first | exact E0 | exact E6.next (by assumption) hg hb | go_keep) (first | (go_at_call 93; refine (eqProc _ _ _ _ _ _ _ hn' hgg C1 C2).mono ?_; rintro e w1 ⟨rfl, hb⟩))
      have hB1 := below_tr hB.drew hb
      go_wp2_with fail
      go_roundw
      case rel => exact ⟨k + 1, by omega, by go_num, hB1⟩
      case measure => simp [intOf]; omega
    · obtain rfl : k = m := by omega
      clear h1 h2
      go_wp2_with fail
      go_ret
      exact ⟨rfl, hB⟩

set_option maxHeartbeats 2000000 in
theorem eqPrg (g h m : Nat) (P : Nat → Proc) (S R : Nat → Spot) (w : World) (hm : m ≤ 1048576) (hn : ∀ i, i < m → (P i).n ≤ 1048576) (hg : g < w.heap.size ∧ h < w.heap.size) (h1 : ProcsAt (some ⟨g, 0, none⟩) g 0 m P S w) (h2 : ProcsAt (some ⟨h, 0, none⟩) h 0 m P R w) (hS : Copy S P m) (hR : Copy R P m) :
    Calls Try.prog 15 #[.agg #[.slice (some ⟨g, 0, none⟩) m m], .agg #[.slice (some ⟨h, 0, none⟩) m m]] w fun e w' => e = .returned (.bool true) ∧ Below w.heap.size w w' := by
  have b0 : Below w.heap.size w ((w.alloc (.cells #[.slice (some ⟨g, 0, none⟩) m m] 35)).alloc (.cells #[.slice (some ⟨h, 0, none⟩) m m] 35)) := by
    repeat (first | exact Below.refl _ _ | refine Below.alloc ?_ (by simp; try omega) _)
  have H1 := h1.next b0
  have H2 := h2.next b0
  have G : g < ((w.alloc (.cells #[.slice (some ⟨g, 0, none⟩) m m] 35)).alloc (.cells #[.slice (some ⟨h, 0, none⟩) m m] 35)).heap.size ∧ h < ((w.alloc (.cells #[.slice (some ⟨g, 0, none⟩) m m] 35)).alloc (.cells #[.slice (some ⟨h, 0, none⟩) m m] 35)).heap.size := by simp; omega
  clear h1 h2
  go_enter Try.func15, Try.ntmps15
  go_wp2_with fail
  refine (eqProcs _ _ _ _ _ _ _ hm hn G H1 H2 hS hR).mono ?_
  rintro e w1 ⟨rfl, hb⟩
  clear H1 H2 G hS hR hn
  go_wp2_with fail
  go_ret
  exact ⟨rfl, below_tr b0 hb⟩
end Go.Proofs.Ytdpkbbbfnmneiaa
