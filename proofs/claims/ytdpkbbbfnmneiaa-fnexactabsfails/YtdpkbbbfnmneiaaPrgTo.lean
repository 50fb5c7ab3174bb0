/- Programs copied: what the laws' to.. functions make. Each copy lies in memory of its own. -/
import Derived.Test.YtdpkbbbfnmneiaaPrg
import Derived.Test.YtdpkbbbfnmneiaaIns
import Derived.Laws.MakeOwn
namespace Go.Proofs.Ytdpkbbbfnmneiaa
open Go.ChangeShapes Go.WideShapes Go.ChangeAt Go.RowKit

theorem make_rows {P : Program} (t e : TypeId) (z : Value) (sz bytes : Nat) (ht : P.underlying t = some (.slice e)) (hinfo : (P.info? e).map (fun i => (i.zero, i.size, i.bytes)) = some (some z, sz, bytes)) (n : Nat) (hb : bytes * n ≤ 281474976710656) (h63 : n ≤ 9223372036854775807) (w : World) :
    (Instr.makeSlice t (.int .i64 (n : Int)) (.int .i64 (n : Int))).run P w = .ok (.slice (some ⟨w.heap.size, 0, none⟩) n n) (w.alloc (.cells (madeCells z.cells (n * sz)) e)) := by
  obtain ⟨i, hi, hzz⟩ := Option.map_eq_some_iff.1 hinfo
  simp only [Prod.mk.injEq] at hzz
  obtain ⟨hz, hs, hb'⟩ := hzz
  have hb2 : (i.bytes : Int) * (n : Int) ≤ 281474976710656 := by
    rw [hb']
    have h : ((bytes * n : Nat) : Int) ≤ 281474976710656 := by omega
    rwa [Int.natCast_mul] at h
  have hr := run_make (P := P) w t e i z ht hi hz .i64 .i64 n n (by omega) (Int.le_refl _) hb2 (by omega)
  simp only [Int.toNat_natCast, hs] at hr
  exact hr
theorem made_cell (w : World) (z : Array Value) (k : Nat) (e : TypeId) (i : Nat) (h : i < k) : (w.alloc (.cells (madeCells z k) e)).cell? ⟨w.heap.size, i, none⟩ = some (z[i % z.size]!) := by
  unfold World.cell?
  rw [heap_alloc_new]
  simp [madeCells, h]

/-- Cells written one behind the other, from o on. -/
def setAll (g : Nat) : Nat → List Value → World → World
  | _, [], W => W
  | o, v :: vs, W => setAll g (o + 1) vs (W.setCell ⟨g, o, none⟩ v)
theorem setAll_below {B g : Nat} {w : World} (hg : B ≤ g) : ∀ (vs : List Value) (o : Nat) (W : World), Below B w W → Below B w (setAll g o vs W)
  | [], _, _, h => h
  | v :: vs, o, _, h => setAll_below hg vs (o + 1) _ (h.setCell hg v)
theorem setAll_frozen {g : Nat} (p : Addr) : ∀ (vs : List Value) (o : Nat) (W : World), (setAll g o vs W).frozen? p = W.frozen? p
  | [], _, _ => rfl
  | v :: vs, o, W => by rw [setAll, setAll_frozen p vs, World.frozen?_setCell]
theorem setAll_other {g : Nat} (p : Addr) : ∀ (vs : List Value) (o : Nat) (W : World), (∀ j, j < vs.length → p ≠ ⟨g, o + j, none⟩) → (setAll g o vs W).cell? p = W.cell? p
  | [], _, _, _ => rfl
  | v :: vs, o, W, h => by
    rw [setAll, setAll_other p vs (o + 1) _ (fun j hj => by
      have := h (j + 1) (by simp; omega)
      rwa [show o + 1 + j = o + (j + 1) by omega])]
    exact World.cell?_setCell_other _ _ _ _ (by have := h 0 (by simp); first | simpa using this | (intro x; exact this (by simpa using x.symm)))
theorem setAll_at {g : Nat} : ∀ (vs : List Value) (o : Nat) (W : World) (i : Nat) (v : Value), (∀ j, j < vs.length → (W.cell? ⟨g, o + j, none⟩).isSome = true) → vs[i]? = some v → (setAll g o vs W).cell? ⟨g, o + i, none⟩ = some v
  | [], _, _, _, _, _, h => by simp at h
  | u :: vs, o, W, 0, v, hs, h => by
    simp at h
    subst h
    rw [setAll, setAll_other _ vs (o + 1) _ (fun j _ => by simp <;> omega)]
    obtain ⟨x, hx⟩ := Option.isSome_iff_exists.1 (hs 0 (by simp))
    exact World.cell?_setCell_same _ _ _ hx
  | u :: vs, o, W, i + 1, v, hs, h => by
    rw [setAll, show o + (i + 1) = o + 1 + i by omega]
    refine setAll_at vs (o + 1) _ i v (fun j hj => ?_) (by simpa using h)
    rw [World.cell?_setCell_other _ _ _ _ (by simp <;> omega), show o + 1 + j = o + (j + 1) by omega]
    exact hs (j + 1) (by simp; omega)

set_option maxRecDepth 10000 in
set_option maxHeartbeats 4000000 in
theorem toInsS (a : Option Addr) (b off n cap : Nat) (c : Nat → Nat → Int) (w : World) (hn : n ≤ 1048576) (hC : CodeAt a b off n c w) :
    Calls Try.prog 113 #[.slice a n cap] w fun e w' => ∃ g : Nat, e = .returned (.slice (some ⟨g, 0, none⟩) n n) ∧ w.heap.size ≤ g ∧ g < w'.heap.size ∧ CodeAt (some ⟨g, 0, none⟩) g 0 n c w' ∧ (∀ i, w'.frozen? ⟨g, i, none⟩ = false) ∧ Below w.heap.size w w' := by
  have hmk := fun W => make_rows (P := Try.prog) 87 72 (.agg #[.int .i64 0, .int .i64 0, .int .i64 0, .int .i64 0, .int .i64 0, .int .i64 0, .int .i64 0, .int .i64 0]) 8 64 Try.underlying87 (by kernel_rfl) n (by omega) (by omega) W
  go_enter Try.func113, Try.ntmps113
  go_wp2
  have hbel : Below w.heap.size w (w.alloc (.cells (madeCells #[.int .i64 0, .int .i64 0, .int .i64 0, .int .i64 0, .int .i64 0, .int .i64 0, .int .i64 0, .int .i64 0] (n * 8)) 72)) := (Below.refl _ _).alloc (Nat.le_refl _) _
  have hnew : ∀ i, i < n * 8 → (w.alloc (.cells (madeCells #[.int .i64 0, .int .i64 0, .int .i64 0, .int .i64 0, .int .i64 0, .int .i64 0, .int .i64 0, .int .i64 0] (n * 8)) 72)).cell? ⟨w.heap.size, i, none⟩ = some (.int .i64 0) := fun i hi => by
    rw [made_cell _ _ _ _ _ hi]
    have : i % 8 < 8 := Nat.mod_lt _ (by omega)
    rcases (show i % 8 = 0 ∨ i % 8 = 1 ∨ i % 8 = 2 ∨ i % 8 = 3 ∨ i % 8 = 4 ∨ i % 8 = 5 ∨ i % 8 = 6 ∨ i % 8 = 7 by omega) with h | h | h | h | h | h | h | h <;> simp [h]
  have hfr : ∀ i, (w.alloc (.cells (madeCells #[.int .i64 0, .int .i64 0, .int .i64 0, .int .i64 0, .int .i64 0, .int .i64 0, .int .i64 0, .int .i64 0] (n * 8)) 72)).frozen? ⟨w.heap.size, i, none⟩ = false := fun i => World.frozen?_alloc_new _ _ _ _
  have hsz : w.heap.size < (w.alloc (.cells (madeCells #[.int .i64 0, .int .i64 0, .int .i64 0, .int .i64 0, .int .i64 0, .int .i64 0, .int .i64 0, .int .i64 0] (n * 8)) 72)).heap.size := by simp
  generalize w.alloc (.cells (madeCells #[.int .i64 0, .int .i64 0, .int .i64 0, .int .i64 0, .int .i64 0, .int .i64 0, .int .i64 0, .int .i64 0] (n * 8)) 72) = W1 at hbel hnew hfr hsz ⊢
  clear hmk
  obtain ⟨g, hg⟩ : ∃ g, g = w.heap.size := ⟨_, rfl⟩
  rw [← hg] at hnew hfr hsz
  have hgS : Hid (g = w.heap.size) := hg
  rw [← hg]
  clear hg
  go_loopw [4] (fun i wr => ∃ k : Nat, k ≤ n ∧ i = .int .i64 k ∧ Below w.heap.size w wr ∧ g < wr.heap.size ∧ (∀ i, i < n * 8 → wr.cell? ⟨g, i, none⟩ = some (.int .i64 (if i < k * 8 then c (i / 8) (i % 8) else 0))) ∧ (∀ i, wr.frozen? ⟨g, i, none⟩ = false)) (fun i _ => n - (intOf i).toNat)
  case atStart => exact ⟨0, Nat.zero_le _, rfl, hbel, hsz, fun i hi => by simpa using hnew i hi, hfr⟩
  case round =>
    obtain ⟨k, hk, rfl, hB, hs, hc, hf⟩ := hrel
    have hcS : Hid (∀ i, i < n * 8 → wr.cell? ⟨g, i, none⟩ = some (.int .i64 (if i < k * 8 then c (i / 8) (i % 8) else 0))) := hc
    have hfS : Hid (∀ i, wr.frozen? ⟨g, i, none⟩ = false) := hf
    clear hc hf hnew hfr hsz hbel
    by_cases hlt : k < n
    · have hC' := hC.next hB
      have e1 := hC'.at_ (by omega)
      have d0 := hC'.cell k 0 hlt (by omega)
      have d1 := hC'.cell k 1 hlt (by omega)
      have d2 := hC'.cell k 2 hlt (by omega)
      have d3 := hC'.cell k 3 hlt (by omega)
      have d4 := hC'.cell k 4 hlt (by omega)
      have d5 := hC'.cell k 5 hlt (by omega)
      have d6 := hC'.cell k 6 hlt (by omega)
      have d7 := hC'.cell k 7 hlt (by omega)
      rw [Nat.add_zero] at d0
      have t1 : ((k : Int)).toNat = k := by omega
      have t2 : (0 : Int) ≤ (k : Int) := by omega
      have t3 : (k : Int) < (n : Int) := by omega
      subst e1
      clear hC hC'
      go_wp2_with fail
      refine (toIns _ _ _ _ _ _ _ _ _).mono ?_
      rintro e w1 ⟨rfl, hb⟩
      have hB1 := below_tr hB hb
      have hs1 : g < w1.heap.size := Nat.lt_of_lt_of_le hs hb.size
      have q : ∀ i, w1.cell? ⟨g, i, none⟩ = wr.cell? ⟨g, i, none⟩ := fun i => hb.cell (p := ⟨g, i, none⟩) hs
      have qf : ∀ i, w1.frozen? ⟨g, i, none⟩ = false := fun i => (hb.frozen (p := ⟨g, i, none⟩) hs).trans (hfS.out i)
      have hz : ∀ j, j < 8 → w1.cell? ⟨g, k * 8 + j, none⟩ = some (.int .i64 0) := fun j hj => by rw [q, hcS.out _ (by omega), if_neg (by omega)]
      have z0 := hz 0 (by omega)
      have z1 := hz 1 (by omega)
      have z2 := hz 2 (by omega)
      have z3 := hz 3 (by omega)
      have z4 := hz 4 (by omega)
      have z5 := hz 5 (by omega)
      have z6 := hz 6 (by omega)
      have z7 := hz 7 (by omega)
      rw [Nat.add_zero] at z0
      have hzS : Hid (∀ j, j < 8 → w1.cell? ⟨g, k * 8 + j, none⟩ = some (.int .i64 0)) := hz
      have qS : Hid (∀ i, w1.cell? ⟨g, i, none⟩ = wr.cell? ⟨g, i, none⟩) := q
      clear q hz d0 d1 d2 d3 d4 d5 d6 d7
      go_wp2_with fail
      go_roundw
      case measure => simp [intOf]; omega
      refine ⟨k + 1, by omega, by go_num, setAll_below (by rw [hgS.out]; exact Nat.le_refl _) [.int .i64 (c k 0), .int .i64 (c k 1), .int .i64 (c k 2), .int .i64 (c k 3), .int .i64 (c k 4), .int .i64 (c k 5), .int .i64 (c k 6), .int .i64 (c k 7)] (k * 8) w1 hB1, by simpa [World.setCell] using hs1, fun i hi => ?_, fun i => (setAll_frozen _ [.int .i64 (c k 0), .int .i64 (c k 1), .int .i64 (c k 2), .int .i64 (c k 3), .int .i64 (c k 4), .int .i64 (c k 5), .int .i64 (c k 6), .int .i64 (c k 7)] (k * 8) w1).trans (qf i)⟩
      show (setAll g (k * 8) [.int .i64 (c k 0), .int .i64 (c k 1), .int .i64 (c k 2), .int .i64 (c k 3), .int .i64 (c k 4), .int .i64 (c k 5), .int .i64 (c k 6), .int .i64 (c k 7)] w1).cell? _ = _
      by_cases h8 : k * 8 ≤ i ∧ i < k * 8 + 8
      · obtain ⟨j, rfl⟩ : ∃ j, i = k * 8 + j := ⟨i - k * 8, by omega⟩
        rw [setAll_at _ (k * 8) w1 j (.int .i64 (c k j)) (fun j' hj' => by rw [hzS.out j' (by simpa using hj')]; rfl) (by
          rcases (show j = 0 ∨ j = 1 ∨ j = 2 ∨ j = 3 ∨ j = 4 ∨ j = 5 ∨ j = 6 ∨ j = 7 by omega) with rfl | rfl | rfl | rfl | rfl | rfl | rfl | rfl <;> rfl), if_pos (by omega), show (k * 8 + j) / 8 = k by omega, show (k * 8 + j) % 8 = j by omega]
      · rw [setAll_other _ _ _ _ (fun j' hj' => by
          have : j' < 8 := by simpa using hj'
          simp <;> omega), qS.out, hcS.out i hi]
        by_cases h1 : i < k * 8
        · rw [if_pos h1, if_pos (by omega)]
        · rw [if_neg h1, if_neg (by omega)]
    · obtain rfl : k = n := by omega
      go_wp2_with fail
      go_ret
      refine ⟨g, rfl, by rw [hgS.out]; exact Nat.le_refl _, hs, ⟨fun _ => rfl, fun _ => hs, fun i j hi hj => ?_⟩, hfS.out, hB⟩
      rw [Nat.zero_add, hcS.out _ (by omega), if_pos (by omega), show (i * 8 + j) / 8 = i by omega, show (i * 8 + j) % 8 = j by omega]

theorem CodeAt.set {a : Option Addr} {b off n : Nat} {c : Nat → Nat → Int} {W : World} {G o : Nat} {vs : List Value} (h : CodeAt a b off n c W) (hne : b ≠ G) : CodeAt a b off n c (setAll G o vs W) :=
  ⟨h.at_, fun hn => Nat.lt_of_lt_of_le (h.lt hn) (setAll_below (B := 0) (w := W) (Nat.zero_le _) vs o W (Below.refl _ _)).size, fun k j hk hj => by
    rw [setAll_other _ _ _ _ (fun j' _ e => hne (by injection e))]
    exact h.cell k j hk hj⟩

theorem own3 {W : World} {B : Nat} {u v x : Value} (k0 : W.cell? ⟨B, 0, none⟩ = some u) (k1 : W.cell? ⟨B, 1, none⟩ = some v) (k2 : W.cell? ⟨B, 2, none⟩ = some x) : (∀ p, (W.setCell ⟨B, 0, none⟩ p).cell? ⟨B, 0, none⟩ = some p) ∧ (∀ p q, ((W.setCell ⟨B, 0, none⟩ p).setCell ⟨B, 1, none⟩ q).cell? ⟨B, 1, none⟩ = some q) ∧ (∀ p q r, (((W.setCell ⟨B, 0, none⟩ p).setCell ⟨B, 1, none⟩ q).setCell ⟨B, 2, none⟩ r).cell? ⟨B, 2, none⟩ = some r) :=
  ⟨fun _ => World.cell?_setCell_same _ _ _ k0, fun _ _ => World.cell?_setCell_same _ _ _ (u := v) (by rw [World.cell?_setCell_other _ _ _ _ (by simp)]; exact k1), fun _ _ _ => World.cell?_setCell_same _ _ _ (u := x) (by rw [World.cell?_setCell_other _ _ _ _ (by simp), World.cell?_setCell_other _ _ _ _ (by simp)]; exact k2)⟩
set_option maxHeartbeats 2000000 in
theorem toProc (lo hi : Int) (a : Option Addr) (b off n cap : Nat) (c : Nat → Nat → Int) (w : World) (hn : n ≤ 1048576) (hC : CodeAt a b off n c w) :
    Calls Try.prog 88 #[.agg #[.int .i64 lo, .int .i64 hi, .slice a n cap]] w fun e w' => ∃ g : Nat, e = .returned (.agg #[.int .i64 lo, .int .i64 hi, .slice (some ⟨g, 0, none⟩) n n]) ∧ w.heap.size ≤ g ∧ g < w'.heap.size ∧ CodeAt (some ⟨g, 0, none⟩) g 0 n c w' ∧ (∀ i, w'.frozen? ⟨g, i, none⟩ = false) ∧ Below w.heap.size w w' := by
  have b0 : Below w.heap.size w (((w.alloc (.cells #[.int .i64 lo, .int .i64 hi, .slice a n cap] 139)).alloc (.cells #[.int .i64 0, .int .i64 0, .slice none 0 0] 89)).alloc (.cells #[.int .i64 lo, .int .i64 hi, .slice none 0 0] 89)) := by
    repeat (first | exact Below.refl _ _ | refine Below.alloc ?_ (by simp; try omega) _)
  have hC0 := hC.next b0
  clear hC
  go_enter Try.func88, Try.ntmps88
  go_wp2_with fail
  refine (toInsS _ _ _ _ _ _ _ hn hC0).mono ?_
  rintro e w1 ⟨g, rfl, hg, hg1, hK, hfg, hb⟩
  clear hC0
  have b1 := below_tr b0 hb
  obtain ⟨hc, hf⟩ := bcell hb
  have hg' : w.heap.size + 1 + 1 + 1 ≤ g := by simpa using hg
  have hgX : g ≠ w.heap.size + 1 + 1 := by omega
  have hgR : g ≠ w.heap.size + 1 := by omega
  have k0 : w1.cell? ⟨w.heap.size + 1, 0, none⟩ = some (.int .i64 0) := by rw [hc (w.heap.size + 1) 0 (by simp; try omega)]; simp [go_sem]
  have k1 : w1.cell? ⟨w.heap.size + 1, 1, none⟩ = some (.int .i64 0) := by rw [hc (w.heap.size + 1) 1 (by simp; try omega)]; simp [go_sem]
  have k2 : w1.cell? ⟨w.heap.size + 1, 2, none⟩ = some (.slice none 0 0) := by rw [hc (w.heap.size + 1) 2 (by simp; try omega)]; simp [go_sem]
  obtain ⟨e0, e1, e2⟩ := own3 (W := w1.setCell ⟨w.heap.size + 1 + 1, 2, none⟩ (.slice (some ⟨g, 0, none⟩) n n)) (B := w.heap.size + 1) (u := .int .i64 0) (v := .int .i64 0) (x := .slice none 0 0) (by rw [World.cell?_setCell_other _ _ _ _ (by simp)]; exact k0) (by rw [World.cell?_setCell_other _ _ _ _ (by simp)]; exact k1) (by rw [World.cell?_setCell_other _ _ _ _ (by simp)]; exact k2)
  go_wp2_with fail
  refine bodyPost_ret (v := .agg #[.int .i64 lo, .int .i64 hi, .slice (some ⟨g, 0, none⟩) n n]) (by simp [results, Try.results88, go_sem, e0, e1, e2]) rfl ⟨g, rfl, by omega, ?_, ?_, (fun i => by simp only [World.frozen?_setCell]; exact hfg i), ?_⟩
  · simpa [World.setCell] using hg1
  · have h1 : CodeAt (some ⟨g, 0, none⟩) g 0 n c (setAll (w.heap.size + 1 + 1) 2 [.slice (some ⟨g, 0, none⟩) n n] w1) := hK.set hgX
    exact CodeAt.set (G := w.heap.size + 1) (o := 0) (vs := [.int .i64 lo, .int .i64 hi, .slice (some ⟨g, 0, none⟩) n n]) h1 hgR
  · repeat (first | exact b1 | refine Below.setCell ?_ (by simp; try omega) _)
end Go.Proofs.Ytdpkbbbfnmneiaa
