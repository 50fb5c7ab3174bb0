/- Runs copied: what the laws' to.. functions make. Each copy lies in memory of its own. -/
import Derived.Test.YtdpkbbbfnmneiaaRun
import Derived.Test.YtdpkbbbfnmneiaaPrgTo
namespace Go.Proofs.Ytdpkbbbfnmneiaa
open Go.ChangeShapes Go.WideShapes Go.ChangeAt Go.RowKit

theorem IntsAt.set {a : Option Addr} {b off n : Nat} {z : Nat → Int} {W : World} {G o : Nat} {vs : List Value} (h : IntsAt a b off n z W) (hne : b ≠ G) : IntsAt a b off n z (setAll G o vs W) :=
  ⟨h.at_, fun hn => Nat.lt_of_lt_of_le (h.lt hn) (setAll_below (B := 0) (w := W) (Nat.zero_le _) vs o W (Below.refl _ _)).size, fun k hk => by
    rw [setAll_other _ _ _ _ (fun j' _ e => hne (by injection e))]
    exact h.cell k hk⟩
theorem own4c {W : World} {B : Nat} {u0 u1 u2 u3 : Value} (k0 : W.cell? ⟨B, 0, none⟩ = some u0) (k1 : W.cell? ⟨B, 1, none⟩ = some u1) (k2 : W.cell? ⟨B, 2, none⟩ = some u2) (k3 : W.cell? ⟨B, 3, none⟩ = some u3) :
    (∀ x0, (W.setCell ⟨B, 0, none⟩ x0).cell? ⟨B, 0, none⟩ = some x0) ∧ (∀ x0 x1, ((W.setCell ⟨B, 0, none⟩ x0).setCell ⟨B, 1, none⟩ x1).cell? ⟨B, 1, none⟩ = some x1) ∧ (∀ x0 x1 x2, (((W.setCell ⟨B, 0, none⟩ x0).setCell ⟨B, 1, none⟩ x1).setCell ⟨B, 2, none⟩ x2).cell? ⟨B, 2, none⟩ = some x2) ∧ (∀ x0 x1 x2 x3, ((((W.setCell ⟨B, 0, none⟩ x0).setCell ⟨B, 1, none⟩ x1).setCell ⟨B, 2, none⟩ x2).setCell ⟨B, 3, none⟩ x3).cell? ⟨B, 3, none⟩ = some x3) := by
  refine ⟨?_, ?_, ?_, ?_⟩
  · intro x0
    refine World.cell?_setCell_same _ _ _ (u := u0) ?_
    exact k0
  · intro x0 x1
    refine World.cell?_setCell_same _ _ _ (u := u1) ?_
    rw [World.cell?_setCell_other _ _ _ _ (by simp)]
    exact k1
  · intro x0 x1 x2
    refine World.cell?_setCell_same _ _ _ (u := u2) ?_
    rw [World.cell?_setCell_other _ _ _ _ (by simp), World.cell?_setCell_other _ _ _ _ (by simp)]
    exact k2
  · intro x0 x1 x2 x3
    refine World.cell?_setCell_same _ _ _ (u := u3) ?_
    rw [World.cell?_setCell_other _ _ _ _ (by simp), World.cell?_setCell_other _ _ _ _ (by simp), World.cell?_setCell_other _ _ _ _ (by simp)]
    exact k3
theorem own5c {W : World} {B : Nat} {u0 u1 u2 u3 u4 : Value} (k0 : W.cell? ⟨B, 0, none⟩ = some u0) (k1 : W.cell? ⟨B, 1, none⟩ = some u1) (k2 : W.cell? ⟨B, 2, none⟩ = some u2) (k3 : W.cell? ⟨B, 3, none⟩ = some u3) (k4 : W.cell? ⟨B, 4, none⟩ = some u4) :
    (∀ x0, (W.setCell ⟨B, 0, none⟩ x0).cell? ⟨B, 0, none⟩ = some x0) ∧ (∀ x0 x1, ((W.setCell ⟨B, 0, none⟩ x0).setCell ⟨B, 1, none⟩ x1).cell? ⟨B, 1, none⟩ = some x1) ∧ (∀ x0 x1 x2, (((W.setCell ⟨B, 0, none⟩ x0).setCell ⟨B, 1, none⟩ x1).setCell ⟨B, 2, none⟩ x2).cell? ⟨B, 2, none⟩ = some x2) ∧ (∀ x0 x1 x2 x3, ((((W.setCell ⟨B, 0, none⟩ x0).setCell ⟨B, 1, none⟩ x1).setCell ⟨B, 2, none⟩ x2).setCell ⟨B, 3, none⟩ x3).cell? ⟨B, 3, none⟩ = some x3) ∧ (∀ x0 x1 x2 x3 x4, (((((W.setCell ⟨B, 0, none⟩ x0).setCell ⟨B, 1, none⟩ x1).setCell ⟨B, 2, none⟩ x2).setCell ⟨B, 3, none⟩ x3).setCell ⟨B, 4, none⟩ x4).cell? ⟨B, 4, none⟩ = some x4) := by
  refine ⟨?_, ?_, ?_, ?_, ?_⟩
  · intro x0
    refine World.cell?_setCell_same _ _ _ (u := u0) ?_
    exact k0
  · intro x0 x1
    refine World.cell?_setCell_same _ _ _ (u := u1) ?_
    rw [World.cell?_setCell_other _ _ _ _ (by simp)]
    exact k1
  · intro x0 x1 x2
    refine World.cell?_setCell_same _ _ _ (u := u2) ?_
    rw [World.cell?_setCell_other _ _ _ _ (by simp), World.cell?_setCell_other _ _ _ _ (by simp)]
    exact k2
  · intro x0 x1 x2 x3
    refine World.cell?_setCell_same _ _ _ (u := u3) ?_
    rw [World.cell?_setCell_other _ _ _ _ (by simp), World.cell?_setCell_other _ _ _ _ (by simp), World.cell?_setCell_other _ _ _ _ (by simp)]
    exact k3
  · intro x0 x1 x2 x3 x4
    refine World.cell?_setCell_same _ _ _ (u := u4) ?_
    rw [World.cell?_setCell_other _ _ _ _ (by simp), World.cell?_setCell_other _ _ _ _ (by simp), World.cell?_setCell_other _ _ _ _ (by simp), World.cell?_setCell_other _ _ _ _ (by simp)]
    exact k4
set_option maxRecDepth 10000 in
set_option maxHeartbeats 4000000 in
theorem toInts (a : Option Addr) (b off n cap : Nat) (z : Nat → Int) (w : World) (hn : n ≤ 1048576) (hC : IntsAt a b off n z w) :
    Calls Try.prog 12 #[.slice a n cap] w fun e w' => ∃ g : Nat, e = .returned (.slice (some ⟨g, 0, none⟩) n n) ∧ w.heap.size ≤ g ∧ g < w'.heap.size ∧ IntsAt (some ⟨g, 0, none⟩) g 0 n z w' ∧ Below w.heap.size w w' := by
  have hmk := fun W => make_rows (P := Try.prog) 25 3 (.int .i64 0) 1 8 Try.underlying25 (by kernel_rfl) n (by omega) (by omega) W
  go_enter Try.func12, Try.ntmps12
  go_wp2
  have hbel : Below w.heap.size w (w.alloc (.cells (madeCells #[.int .i64 0] n) 3)) := (Below.refl _ _).alloc (Nat.le_refl _) _
  have hnew : ∀ i, i < n → (w.alloc (.cells (madeCells #[.int .i64 0] n) 3)).cell? ⟨w.heap.size, i, none⟩ = some (.int .i64 0) := fun i hi => by
    rw [made_cell _ _ _ _ _ hi]
    have : i % 1 = 0 := by omega
    simp [this]
  have hfr : ∀ i, (w.alloc (.cells (madeCells #[.int .i64 0] n) 3)).frozen? ⟨w.heap.size, i, none⟩ = false := fun i => World.frozen?_alloc_new _ _ _ _
  have hsz : w.heap.size < (w.alloc (.cells (madeCells #[.int .i64 0] n) 3)).heap.size := by simp
  generalize w.alloc (.cells (madeCells #[.int .i64 0] n) 3) = W1 at hbel hnew hfr hsz ⊢
  clear hmk
  obtain ⟨g, hg⟩ : ∃ g, g = w.heap.size := ⟨_, rfl⟩
  rw [← hg] at hnew hfr hsz
  have hgS : Hid (g = w.heap.size) := hg
  rw [← hg]
  clear hg
  go_loopw [4] (fun i wr => ∃ k : Nat, k ≤ n ∧ i = .int .i64 k ∧ Below w.heap.size w wr ∧ g < wr.heap.size ∧ (∀ i, i < n → wr.cell? ⟨g, i, none⟩ = some (.int .i64 (if i < k then z i else 0))) ∧ (∀ i, wr.frozen? ⟨g, i, none⟩ = false)) (fun i _ => n - (intOf i).toNat)
  case atStart => exact ⟨0, Nat.zero_le _, rfl, hbel, hsz, fun i hi => by simpa using hnew i hi, hfr⟩
  case round =>
    obtain ⟨k, hk, rfl, hB, hs, hc, hf⟩ := hrel
    have hcS : Hid (∀ i, i < n → wr.cell? ⟨g, i, none⟩ = some (.int .i64 (if i < k then z i else 0))) := hc
    clear hc hnew hfr hsz hbel
    by_cases hlt : k < n
    · have hC' := hC.next hB
      have e1 := hC'.at_ (by omega)
      have d0 := hC'.cell k hlt
      have z0 : wr.cell? ⟨g, k, none⟩ = some (.int .i64 0) := by rw [hcS.out k hlt, if_neg (by omega)]
      have t1 : ((k : Int)).toNat = k := by omega
      have t2 : (0 : Int) ≤ (k : Int) := by omega
      have t3 : (k : Int) < (n : Int) := by omega
      subst e1
      clear hC hC'
      generalize hx : z k = x at d0
      have hxS : Hid (z k = x) := hx
      clear hx
      go_wp2_with fail
      go_roundw
      case measure => simp [intOf]; omega
      refine ⟨k + 1, by omega, by go_num, hB.setCell (by rw [hgS.out]; exact Nat.le_refl _) _, by simpa [World.setCell] using hs, fun i hi => ?_, fun i => (World.frozen?_setCell _ _ _ _).trans (hf i)⟩
      by_cases h8 : i = k
      · subst h8
        rw [if_pos (by omega), hxS.out]
        exact World.cell?_setCell_same _ _ _ z0
      · rw [World.cell?_setCell_other _ _ _ _ (by intro e; injection e with _ e; omega), hcS.out i hi]
        by_cases h1 : i < k
        · rw [if_pos h1, if_pos (by omega)]
        · rw [if_neg h1, if_neg (by omega)]
    · obtain rfl : k = n := by omega
      go_wp2_with fail
      go_ret
      refine ⟨g, rfl, by rw [hgS.out]; exact Nat.le_refl _, hs, ⟨fun _ => rfl, fun _ => hs, fun i hi => ?_⟩, hB⟩
      rw [Nat.zero_add, hcS.out _ hi, if_pos hi]
end Go.Proofs.Ytdpkbbbfnmneiaa
