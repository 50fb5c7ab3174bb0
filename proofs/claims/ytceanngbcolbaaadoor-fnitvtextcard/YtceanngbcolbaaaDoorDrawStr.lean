/- What the drawing functions of texts answer: l20Bent a text at most one byte longer than what it was handed, DrawNumRead some text of at most 100 bytes. Conditions: a place far below 1000000; at most 1048576 bytes come in. -/
import Derived.Test.YtceanngbcolbaaaDoorDraws
import Derived.Test.YtceanngbcolbaaaDoorText
import Derived.WalkKit
import Derived.ProofKit
import Derived.OpenShut
import Derived.Below
import Derived.WalkSpells
import Derived.Deep.QuietTactic
import Derived.BigQuiet
import Derived.Laws.IdiomStrings
import Derived.Lib.ItoaLen
namespace Go.Proofs.YtceanngbcolbaaaDoor
open Go.ChangeShapes Go.WideShapes Go.ChangeAt Go.RowKit

theorem conv_any (wr : World) (c : Int) (h0 : 0 ≤ c) (h : c ≤ 255) : ∃ d : UInt8,
    (convert 22 9 (.slice (some ⟨wr.heap.size, 0, none⟩) 1 1)).run Tryd.prog (wr.alloc (.cells #[.int .u8 c] 5)) = .ok (.string ⟨#[d]⟩) (wr.alloc (.cells #[.int .u8 c] 5)) := by
  refine ⟨UInt8.ofNat c.toNat, ?_⟩
  have hb : ((UInt8.ofNat c.toNat).toNat : Int) = c := by rw [UInt8.toNat_ofNat']; omega
  refine run_convert_bytes_back (P := Tryd.prog) (wr.alloc (.cells #[.int .u8 c] 5)) 22 9 5 ⟨wr.heap.size, 0, none⟩ 1 [UInt8.ofNat c.toNat] Tryd.underlying22 Tryd.underlying5 Tryd.underlying9 ?_
  intro j hj
  obtain rfl : j = 0 := by simpa using hj
  have hc : (wr.alloc (.cells #[.int .u8 c] 5)).cell? ⟨wr.heap.size, 0, none⟩ = some (.int .u8 c) := by
    unfold World.cell?
    rw [heap_alloc_new]
    simp
  show (wr.alloc (.cells #[.int .u8 c] 5)).cell? (Addr.add ⟨wr.heap.size, 0, none⟩ 0) = some (.int .u8 ((UInt8.ofNat c.toNat).toNat : Int))
  rw [hb]
  exact hc

theorem grown_dn (w : World) (n : Nat) (row : Option Nat) : w.grownBy (w.drewN n) row := ⟨rfl, rfl, rfl, Nat.le_refl _, fun _ _ _ => rfl⟩
theorem size_put (s : ByteArray) (d : UInt8) (k : Nat) (h : k ≤ s.size) : (s.extract 0 k ++ ⟨#[d]⟩ ++ s.extract k s.size).size ≤ s.size + 1 := by
  have e : (⟨#[d]⟩ : ByteArray).size = 1 := rfl
  simp only [ByteArray.size_append, ByteArray.size_extract, e]
  omega
theorem size_cut (s : ByteArray) (k : Nat) (h : k < s.size) : (s.extract 0 k ++ s.extract (k + 1) s.size).size ≤ s.size + 1 := by
  simp only [ByteArray.size_append, ByteArray.size_extract]
  omega
theorem size_turn (s : ByteArray) (d : UInt8) (k : Nat) (h : k < s.size) : (s.extract 0 k ++ ⟨#[d]⟩ ++ s.extract (k + 1) s.size).size ≤ s.size + 1 := by
  have e : (⟨#[d]⟩ : ByteArray).size = 1 := rfl
  simp only [ByteArray.size_append, ByteArray.size_extract, e]
  omega

set_option maxHeartbeats 2000000 in
theorem bentS (R : Nat) (a : Option Addr) (m c : Nat) (z : Nat → Int) (p : Nat) (s : ByteArray) (w : World) (h : Rd w R a m c z p) (hp : p < 900000) (hs : s.size ≤ 1000) :
    Calls Tryd.prog 15 #[.pointer (some ⟨R, 0, none⟩), .string s] w fun e w' => ∃ (t : ByteArray) (p' : Nat), e = .returned (.string t) ∧ t.size ≤ s.size + 1 ∧ p' ≤ p + 4 ∧ Rd w' R a m c z p' ∧ w.grownBy w' (some R) := by
  go_enter Tryd.func15, Tryd.ntmps15
  go_wp2_with fail
  refine (pick R a m c z p ((s.size : Int) + 1) _ h (by omega) (by omega) (by omega)).mono ?_
  rintro e w1 ⟨k0, hk1, hk2, rfl, h1, g1⟩
  obtain ⟨k, rfl⟩ := Int.eq_ofNat_of_zero_le hk1
  go_wp2_with fail
  refine (pick R a m c z (p + 1) 256 _ h1 (by omega) (by omega) (by omega)).mono ?_
  rintro e w2 ⟨x, hx1, hx2, rfl, h2, g2⟩
  go_wp2_with fail
  refine (pick R a m c z (p + 2) 8 _ (h2.kept (World.grownBy_alloc _ _ none) (by simp)) (by omega) (by omega) (by omega)).mono ?_
  rintro e w3 ⟨y0, hy1, hy2, rfl, h3, g3⟩
  obtain ⟨y, rfl⟩ := Int.eq_ofNat_of_zero_le hy1
  obtain ⟨v, hv, hv1, hv2⟩ := tab_cell (lo := 0) (hi := 255) (all_of (by simp [inTab]; omega)) g3 h2.size y (by simp; omega)
  obtain ⟨d, hcv⟩ := conv_any w3 v hv1 hv2
  have G3 := grown_trans g1 (grown_trans g2 (grown_trans (World.grownBy_alloc _ _ _) g3))
  go_wp2_with fail
  refine (pick R a m c z (p + 3) 3 _ (h3.kept (World.grownBy_alloc _ _ none) (by simp)) (by omega) (by omega) (by omega)).mono ?_
  rintro e w4 ⟨u, hu1, hu2, rfl, h4, g4⟩
  have G4 := grown_trans G3 (grown_trans (World.grownBy_alloc _ _ _) g4)
  clear hcv hv
  have kk : (k : Int) ≤ (s.size : Int) := by omega
  obtain rfl | rfl | rfl : u = 0 ∨ u = 1 ∨ u = 2 := by omega
  · go_wp2_with fail
    go_quiet (fail)
    go_wp2_with fail
    go_ret
    exact ⟨_, p + 4, rfl, size_put s d k (by omega), by omega, h4.kept (grown_dn _ _ none) (by simp), grown_trans G4 (grown_dn _ _ _)⟩
  · by_cases hks : k < s.size
    · have kl : (k : Int) < (s.size : Int) := by omega
      have kl2 : (k : Int) + 1 ≤ (s.size : Int) := by omega
      go_wp2_with fail
      go_quiet (fail)
      go_wp2_with fail
      go_ret
      exact ⟨_, p + 4, rfl, size_cut s k hks, by omega, h4.kept (grown_dn _ _ none) (by simp), grown_trans G4 (grown_dn _ _ _)⟩
    · have kl : ¬ (k : Int) < (s.size : Int) := by omega
      go_wp2_with fail
      go_ret
      exact ⟨_, p + 4, rfl, by omega, by omega, h4, G4⟩
  · by_cases hks : k < s.size
    · have kl : (k : Int) < (s.size : Int) := by omega
      have kl2 : (k : Int) + 1 ≤ (s.size : Int) := by omega
      go_wp2_with fail
      go_quiet (fail)
      go_wp2_with fail
      go_ret
      exact ⟨_, p + 4, rfl, size_turn s d k hks, by omega, h4.kept (grown_dn _ _ none) (by simp), grown_trans G4 (grown_dn _ _ _)⟩
    · have kl : ¬ (k : Int) < (s.size : Int) := by omega
      go_wp2_with fail
      go_ret
      exact ⟨_, p + 4, rfl, by omega, by omega, h4, G4⟩

def inStr (n : Nat) : Value → Bool
  | .string s => decide (s.size ≤ n)
  | _ => false
theorem inStr_str {n : Nat} {v : Value} (h : inStr n v = true) : ∃ s : ByteArray, v = .string s ∧ s.size ≤ n := by
  unfold inStr at h
  split at h
  · rename_i s
    exact ⟨s, rfl, of_decide_eq_true h⟩
  · cases h
theorem str_cell {w1 w2 : World} {cs : Array Value} {t : TypeId} {R n : Nat} (hall : cs.toList.all (inStr n) = true)
    (g : (w1.alloc (.cells cs t)).grownBy w2 (some R)) (hR : R < w1.heap.size) (k : Nat) (hk : k < cs.size) :
    ∃ s : ByteArray, w2.cell? ⟨w1.heap.size, k, none⟩ = some (.string s) ∧ s.size ≤ n := by
  rw [List.all_eq_true] at hall
  obtain ⟨s, e, h1⟩ := inStr_str (hall cs[k] (by simp))
  have hc := g.cell (cell_new w1 cs t k hk) (by simp; omega)
  rw [e] at hc
  exact ⟨s, hc, h1⟩

theorem text_size (n : Int) : (⟨(textOf n).toArray⟩ : ByteArray).size ≤ 21 := by
  show (textOf n).toArray.size ≤ 21
  rcases Bool.eq_false_or_eq_true (okB n) with h | h
  · rw [textOf_ok h]
    have := ok_lo h; have := ok_hi h
    have := Lib.itoa_length_le n (by omega) (by omega)
    simpa using this
  · rw [textOf_no h]; simp

/-- A reader below new blocks stays. -/
theorem Rd.old {w w' : World} {R : Nat} {a : Option Addr} {m c : Nat} {z : Nat → Int} {p : Nat} (h : Rd w R a m c z p) (b : Below w.heap.size w w') : Rd w' R a m c z p :=
  h.kept (row := none) ⟨b.os, b.tape, b.output, b.size, fun k hk _ => b.block k hk⟩ (by simp)

end Go.Proofs.YtceanngbcolbaaaDoor
