/- What the drawing reader's pick answers: on no bytes 0; at a place within the bytes that byte mod n; behind them a number of 0..n-1. Conditions: n from 1 to 1000000, a place below 1000000, at most 2000 bytes. -/
import Derived.Test.YtiehokibfdaleaaNums
import Derived.WalkKit
import Derived.ProofKit
import Derived.OpenShut
import Derived.Below
import Derived.Laws.BitsAllLaws
import Derived.Deep.QuietTactic
import Derived.BigQuiet
namespace Go.Proofs.Ytiehokibfdaleaa
open Go.ChangeShapes Go.WideShapes Go.ChangeAt Go.RowKit

theorem xor_nat (a b : Nat) (ha : a < 4611686018427387904) (hb : b < 4611686018427387904) : bits .xor .i64 (a : Int) (b : Int) = ((a ^^^ b : Nat) : Int) := by
  have hx : a ^^^ b < 2 ^ 62 := Nat.xor_lt_two_pow (by omega) (by omega)
  have h1 : (BitVec.ofInt 64 (a : Int)).toNat = a := by
    rw [BitVec.ofInt_natCast, BitVec.toNat_ofNat]; exact Nat.mod_eq_of_lt (by omega)
  have h2 : (BitVec.ofInt 64 (b : Int)).toNat = b := by
    rw [BitVec.ofInt_natCast, BitVec.toNat_ofNat]; exact Nat.mod_eq_of_lt (by omega)
  show IntKind.i64.wrap ((BitVec.ofInt 64 (a : Int) ^^^ BitVec.ofInt 64 (b : Int)).toNat : Int) = _
  rw [BitVec.toNat_xor, h1, h2]
  generalize a ^^^ b = t at hx
  simp [IntKind.wrap, IntKind.bits, IntKind.signed]
  omega

theorem mix_ok (y n : Int) (h1 : 0 ≤ y) (h2 : y < 1000000000000) (hn : 1 ≤ n) :
    0 ≤ (bits .xor .i64 y (wrap64 (y.tdiv 64))).tmod n ∧ (bits .xor .i64 y (wrap64 (y.tdiv 64))).tmod n < n := by
  obtain ⟨a, rfl⟩ := Int.eq_ofNat_of_zero_le h1
  have e : wrap64 ((a : Int).tdiv 64) = ((a / 64 : Nat) : Int) := by
    rw [Int.tdiv_eq_ediv_of_nonneg h1, w64 _ (by omega) (by omega)]; omega
  rw [e, xor_nat a (a / 64) (by omega) (by omega)]
  rw [Int.tmod_eq_emod_of_nonneg (by omega)]
  exact ⟨Int.emod_nonneg _ (by omega), Int.emod_lt_of_pos _ (by omega)⟩

theorem mix_bd (p m : Nat) (u v : Int) (hp : p < 1000000) (hm : 0 < m) (hu1 : 0 ≤ u) (hu2 : u ≤ 255) (hv1 : 0 ≤ v) (hv2 : v ≤ 255) :
    0 ≤ wrap64 (u * 131 + v * 1117 + (p : Int) * 29 + wrap64 (wrap64 ((p : Int) / (m : Int)) * 53)) ∧ wrap64 (u * 131 + v * 1117 + (p : Int) * 29 + wrap64 (wrap64 ((p : Int) / (m : Int)) * 53)) < 1000000000000 := by
  have q1 : 0 ≤ (p : Int) / (m : Int) := Int.ediv_nonneg (by omega) (by omega)
  have q2 : (p : Int) / (m : Int) ≤ p := Int.ediv_le_self _ (by omega)
  generalize (p : Int) / (m : Int) = q at q1 q2
  rw [w64 q (by omega) (by omega), w64 (q * 53) (by omega) (by omega), w64 _ (by omega) (by omega)]
  omega
set_option maxHeartbeats 400000 in
theorem pick_empty (R : Nat) (a : Option Addr) (c p : Nat) (n : Int) (w : World) (hn : 1 ≤ n) (hp : p < 1000000)
    (c0 : w.cell? ⟨R, 0, none⟩ = some (.slice a 0 c)) (c1 : w.cell? ⟨R, 1, none⟩ = some (.int .i64 p)) (fz : w.frozen? ⟨R, 1, none⟩ = false) :
    Calls Try.prog 36 #[.pointer (some ⟨R, 0, none⟩), .int .i64 n] w fun e w' => e = .returned (.int .i64 0) ∧ w' = w.setCell ⟨R, 1, none⟩ (.int .i64 (p + 1)) := by
  go_enter Try.func36, Try.ntmps36
  go_wp2
  go_ret
  exact ⟨rfl, rfl⟩

set_option maxHeartbeats 400000 in
theorem pick_in (R b off : Nat) (m c p : Nat) (n v : Int) (w : World) (hn : 1 ≤ n) (hp : p < m) (hm : m ≤ 2000)
    (c0 : w.cell? ⟨R, 0, none⟩ = some (.slice (some ⟨b, off, none⟩) m c)) (c1 : w.cell? ⟨R, 1, none⟩ = some (.int .i64 p)) (fz : w.frozen? ⟨R, 1, none⟩ = false)
    (hne : b ≠ R) (hc : w.cell? ⟨b, off + p, none⟩ = some (.int .u8 v)) (hv1 : 0 ≤ v) (hv2 : v ≤ 255) :
    Calls Try.prog 36 #[.pointer (some ⟨R, 0, none⟩), .int .i64 n] w fun e w' => e = .returned (.int .i64 (v % n)) ∧ w' = w.setCell ⟨R, 1, none⟩ (.int .i64 (p + 1)) := by
  have hm0 : ((m : Int) == 0) = false := by simp; omega
  have hpm : (p : Int) < (m : Int) := by omega
  go_enter Try.func36, Try.ntmps36
  go_wp2
  go_ret
  exact ⟨rfl, rfl⟩

set_option maxHeartbeats 1000000 in
theorem pick_mix (R b off : Nat) (m c p : Nat) (n : Int) (z : Nat → Int) (w : World) (hn : 1 ≤ n) (hn2 : n ≤ 1000000) (hp : m ≤ p) (hp2 : p < 1000000) (hm0 : 0 < m) (hm : m ≤ 2000)
    (c0 : w.cell? ⟨R, 0, none⟩ = some (.slice (some ⟨b, off, none⟩) m c)) (c1 : w.cell? ⟨R, 1, none⟩ = some (.int .i64 p)) (fz : w.frozen? ⟨R, 1, none⟩ = false)
    (hne : b ≠ R) (hc : ∀ i, i < m → w.cell? ⟨b, off + i, none⟩ = some (.int .u8 (z i))) (hv : ∀ i, i < m → 0 ≤ z i ∧ z i ≤ 255) :
    Calls Try.prog 36 #[.pointer (some ⟨R, 0, none⟩), .int .i64 n] w fun e w' => ∃ x q, 0 ≤ x ∧ x < n ∧ e = .returned (.int .i64 x) ∧ w' = (w.setCell ⟨R, 1, none⟩ (.int .i64 (p + 1))).drewN q := by
  have hm1 : ((m : Int) == 0) = false := by simp; omega
  have hpm : ¬ (p : Int) < (m : Int) := by omega
  have i1 : p % m < m := Nat.mod_lt _ hm0
  have i2 : (p * 7 + 3) % m < m := Nat.mod_lt _ hm0
  have d1 := hc _ i1
  have d2 := hc _ i2
  obtain ⟨v1a, v1b⟩ := hv _ i1
  obtain ⟨v2a, v2b⟩ := hv _ i2
  clear hc hv
  have hmi : 1 ≤ (m : Int) := by omega
  have j1 : (p : Int) % (m : Int) < (m : Int) := Int.emod_lt_of_pos _ (by omega)
  have j2 : ((p : Int) * 7 + 3) % (m : Int) < (m : Int) := Int.emod_lt_of_pos _ (by omega)
  have j1' : 0 ≤ (p : Int) % (m : Int) := Int.emod_nonneg _ (by omega)
  have j2' : 0 ≤ ((p : Int) * 7 + 3) % (m : Int) := Int.emod_nonneg _ (by omega)
  go_enter Try.func36, Try.ntmps36
  go_wp2
  go_quiet (fail)
  go_wp2
  go_ret
  obtain ⟨y1, y2⟩ := mix_bd p m _ _ hp2 hm0 v1a v1b v2a v2b
  obtain ⟨x1, x2⟩ := mix_ok _ n y1 y2 hn
  exact ⟨_, nq, x1, x2, rfl, rfl⟩

end Go.Proofs.Ytiehokibfdaleaa
