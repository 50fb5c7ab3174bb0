/- The drawing reader as an invariant of the world (Rd), and pick over it: some number of 0..n-1, the place one more, nothing else turned. -/
import Derived.Test.YtiehokibfdaleaaPick
import Derived.WalkKit
import Derived.ProofKit
import Derived.OpenShut
import Derived.Below
namespace Go.Proofs.Ytiehokibfdaleaa
open Go.ChangeShapes Go.WideShapes Go.ChangeAt Go.RowKit


/-- A reader of bytes at block R: the slice, the place p, the bytes z. -/
structure Rd (w : World) (R : Nat) (a : Option Addr) (m c : Nat) (z : Nat → Int) (p : Nat) : Prop where
  size : R < w.heap.size
  c0 : w.cell? ⟨R, 0, none⟩ = some (.slice a m c)
  c1 : w.cell? ⟨R, 1, none⟩ = some (.int .i64 p)
  fz : w.frozen? ⟨R, 1, none⟩ = false
  len : m ≤ 2000
  byte : ∀ i, 0 ≤ z i ∧ z i ≤ 255
  row : m = 0 ∨ ∃ b off, a = some ⟨b, off, none⟩ ∧ b < R ∧ ∀ i, i < m → w.cell? ⟨b, off + i, none⟩ = some (.int .u8 (z i))

theorem Rd.kept {w w' : World} {R : Nat} {a : Option Addr} {m c : Nat} {z : Nat → Int} {p : Nat} {row : Option Nat} (h : Rd w R a m c z p) (g : w.grownBy w' row) (hr : ∀ k, row = some k → R < k) : Rd w' R a m c z p := by
  have hne : ∀ k, k ≤ R → some k ≠ row := fun k hk e => by have := hr k e.symm; omega
  refine ⟨Nat.lt_of_lt_of_le h.size g.size, g.cell h.c0 (hne R (Nat.le_refl _)), g.cell h.c1 (hne R (Nat.le_refl _)), ?_, h.len, h.byte, ?_⟩
  · exact (World.frozen?_of_block (g.block R h.size (hne R (Nat.le_refl _)))).trans h.fz
  · rcases h.row with h0 | ⟨b, off, e, hb, hc⟩
    · exact .inl h0
    · exact .inr ⟨b, off, e, hb, fun i hi => g.cell (hc i hi) (hne b (by omega))⟩

theorem grown_set (w : World) (R i : Nat) (v : Value) (q : Nat) : w.grownBy ((w.setCell ⟨R, i, none⟩ v).drewN q) (some R) := by
  have e : w.grownBy (w.setCell ⟨R, i, none⟩ v) (some R) := ⟨rfl, rfl, rfl, by simp [World.setCell], fun k _ hk => Below.heap_setCell w _ v k (fun e => hk (by rw [e]))⟩
  have d := below_dn (B := (w.setCell ⟨R, i, none⟩ v).heap.size) (Below.refl _ (w.setCell ⟨R, i, none⟩ v)) q
  exact ⟨d.os.trans e.os, d.tape.trans e.tape, d.output.trans e.output, Nat.le_trans e.size d.size, fun k hk hne => (d.block k (Nat.lt_of_lt_of_le hk e.size)).trans (e.block k hk hne)⟩

theorem grown_trans {a b c : World} {row : Option Nat} (h : a.grownBy b row) (k : b.grownBy c row) : a.grownBy c row :=
  ⟨k.os.trans h.os, k.tape.trans h.tape, k.output.trans h.output, Nat.le_trans h.size k.size, fun i hi hne => (k.block i (Nat.lt_of_lt_of_le hi h.size) hne).trans (h.block i hi hne)⟩

theorem Rd.step {w : World} {R : Nat} {a : Option Addr} {m c : Nat} {z : Nat → Int} {p : Nat} (h : Rd w R a m c z p) (q : Nat) : Rd ((w.setCell ⟨R, 1, none⟩ (.int .i64 (p + 1))).drewN q) R a m c z (p + 1) := by
  have g := grown_set w R 1 (.int .i64 (p + 1)) q
  have d := below_dn (B := (w.setCell ⟨R, 1, none⟩ (.int .i64 (p + 1))).heap.size) (Below.refl _ (w.setCell ⟨R, 1, none⟩ (.int .i64 ((p : Int) + 1)))) q
  have hs : R < (w.setCell ⟨R, 1, none⟩ (.int .i64 ((p : Int) + 1))).heap.size := by simpa [World.setCell] using h.size
  have hne : ∀ b, b < R → some b ≠ some R := fun b hb e => by cases e; omega
  refine ⟨Nat.lt_of_lt_of_le h.size g.size, ?_, ?_, ?_, h.len, h.byte, ?_⟩
  · rw [d.cell hs, World.cell?_setCell_other _ _ _ _ (by simp)]; exact h.c0
  · rw [d.cell hs]; exact World.cell?_setCell_same _ _ _ h.c1
  · rw [d.frozen hs]; simp [h.fz]
  · rcases h.row with h0 | ⟨b, off, e, hb, hc⟩
    · exact .inl h0
    · exact .inr ⟨b, off, e, hb, fun i hi => g.cell (hc i hi) (hne b hb)⟩

theorem pick (R : Nat) (a : Option Addr) (m c : Nat) (z : Nat → Int) (p : Nat) (n : Int) (w : World) (h : Rd w R a m c z p) (hn : 1 ≤ n) (hn2 : n ≤ 1000000) (hp : p < 1000000) :
    Calls Try.prog 36 #[.pointer (some ⟨R, 0, none⟩), .int .i64 n] w fun e w' => ∃ x : Int, 0 ≤ x ∧ x < n ∧ e = .returned (.int .i64 x) ∧ Rd w' R a m c z (p + 1) ∧ w.grownBy w' (some R) := by
  have hst := h.step
  have hgr := grown_set w R 1 (.int .i64 (p + 1))
  rcases h.row with h0 | ⟨b, off, rfl, hb, hc⟩
  · subst h0
    refine (pick_empty R a c p n w hn hp h.c0 h.c1 h.fz).mono ?_
    rintro e w' ⟨rfl, rfl⟩
    exact ⟨0, by omega, by omega, rfl, hst 0, hgr 0⟩
  · by_cases hm : m = 0
    · subst hm
      refine (pick_empty R _ c p n w hn hp h.c0 h.c1 h.fz).mono ?_
      rintro e w' ⟨rfl, rfl⟩
      exact ⟨0, by omega, by omega, rfl, hst 0, hgr 0⟩
    by_cases hpm : p < m
    · obtain ⟨z1, z2⟩ := h.byte p
      refine (pick_in R b off m c p n (z p) w hn hpm h.len h.c0 h.c1 h.fz (by omega) (hc p hpm) z1 z2).mono ?_
      rintro e w' ⟨rfl, rfl⟩
      exact ⟨z p % n, Int.emod_nonneg _ (by omega), Int.emod_lt_of_pos _ (by omega), rfl, hst 0, hgr 0⟩
    · refine (pick_mix R b off m c p n z w hn hn2 (by omega) hp (by omega) h.len h.c0 h.c1 h.fz (by omega) hc (fun i _ => h.byte i)).mono ?_
      rintro e w' ⟨x, q, h1, h2, rfl, rfl⟩
      exact ⟨x, h1, h2, rfl, hst q, hgr q⟩
end Go.Proofs.Ytiehokibfdaleaa
