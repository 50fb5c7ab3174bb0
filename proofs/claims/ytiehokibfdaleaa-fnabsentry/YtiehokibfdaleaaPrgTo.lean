/- Programs copied: what the laws' to.. functions make. Each copy lies in memory of its own. -/
import Derived.Test.YtiehokibfdaleaaPrg
import Derived.Test.YtiehokibfdaleaaIns
import Derived.Laws.MakeOwn
namespace Go.Proofs.Ytiehokibfdaleaa
open Go.ChangeShapes Go.WideShapes Go.ChangeAt Go.RowKit

theorem make_rows {P : Program} (t e : TypeId) (z : Value) (sz bytes : Nat) (ht : P.underlying t = some (.slice e)) (hinfo : (P.info? e).map (fun i => (i.zero, i.size, i.bytes)) = some (some z, sz, bytes)) (n : Nat) (hb : bytes * n ≤ 281474976710656) (h63 : n ≤ 9223372036854775807) (w : World) :
    (Instr.makeSlice t (.int .i64 (n : Int)) (.int .i64 (n : Int))).run P w = .ok (.slice (some ⟨w.heap.size, 0, none⟩) n n) (w.alloc (.cells (madeCells z.cells (n * sz)) e)) := by
  obtain ⟨i, hi, hzz⟩ := Option.map_eq_some_iff.1 hinfo
  simp only [Prod.mk.injEq] at hzz
  obtain ⟨hz, hs, hb'⟩ := hzz
  have hb2 : (i.bytes : Int) * (n : Int) ≤ 281474976710656 := by
    rw [hb']
    have h : ((bytes * n : Nat) : Int) ≤ 281474976710656 := by omega
    rwa [Int.natCast_mul] at h
  have hr := run_make (P := P) w t e i z ht hi hz .i64 .i64 n n (by omega) (Int.le_refl _) hb2 (by omega)
  simp only [Int.toNat_natCast, hs] at hr
  exact hr
theorem made_cell (w : World) (z : Array Value) (k : Nat) (e : TypeId) (i : Nat) (h : i < k) : (w.alloc (.cells (madeCells z k) e)).cell? ⟨w.heap.size, i, none⟩ = some (z[i % z.size]!) := by
  unfold World.cell?
  rw [heap_alloc_new]
  simp [madeCells, h]

/-- Cells written one behind the other, from o on. -/
def setAll (g : Nat) : Nat → List Value → World → World
  | _, [], W => W
  | o, v :: vs, W => setAll g (o + 1) vs (W.setCell ⟨g, o, none⟩ v)
theorem setAll_below {B g : Nat} {w : World} (hg : B ≤ g) : ∀ (vs : List Value) (o : Nat) (W : World), Below B w W → Below B w (setAll g o vs W)
  | [], _, _, h => h
  | v :: vs, o, _, h => setAll_below hg vs (o + 1) _ (h.setCell hg v)
theorem setAll_frozen {g : Nat} (p : Addr) : ∀ (vs : List Value) (o : Nat) (W : World), (setAll g o vs W).frozen? p = W.frozen? p
  | [], _, _ => rfl
  | v :: vs, o, W => by rw [setAll, setAll_frozen p vs, World.frozen?_setCell]
theorem setAll_other {g : Nat} (p : Addr) : ∀ (vs : List Value) (o : Nat) (W : World), (∀ j, j < vs.length → p ≠ ⟨g, o + j, none⟩) → (setAll g o vs W).cell? p = W.cell? p
  | [], _, _, _ => rfl
  | v :: vs, o, W, h => by
    rw [setAll, setAll_other p vs (o + 1) _ (fun j hj => by
      have := h (j + 1) (by simp; omega)
      rwa [show o + 1 + j = o + (j + 1) by omega])]
    exact World.cell?_setCell_other _ _ _ _ (by have := h 0 (by simp); first | simpa using this | (intro x; exact this (by simpa using x.symm)))
theorem setAll_at {g : Nat} : ∀ (vs : List Value) (o : Nat) (W : World) (i : Nat) (v : Value), (∀ j, j < vs.length → (W.cell? ⟨g, o + j, none⟩).isSome = true) → vs[i]? = some v → (setAll g o vs W).cell? ⟨g, o + i, none⟩ = some v
  | [], _, _, _, _, _, h => by simp at h
  | u :: vs, o, W, 0, v, hs, h => by
    simp at h
    subst h
    rw [setAll, setAll_other _ vs (o + 1) _ (fun j _ => by simp <;> omega)]
    obtain ⟨x, hx⟩ := Option.isSome_iff_exists.1 (hs 0 (by simp))
    exact World.cell?_setCell_same _ _ _ hx
  | u :: vs, o, W, i + 1, v, hs, h => by
    rw [setAll, show o + (i + 1) = o + 1 + i by omega]
    refine setAll_at vs (o + 1) _ i v (fun j hj => ?_) (by simpa using h)
    rw [World.cell?_setCell_other _ _ _ _ (by simp <;> omega), show o + 1 + j = o + (j + 1) by omega]
    exact hs (j + 1) (by simp; omega)

theorem CodeAt.set {a : Option Addr} {b off n : Nat} {c : Nat → Nat → Int} {W : World} {G o : Nat} {vs : List Value} (h : CodeAt a b off n c W) (hne : b ≠ G) : CodeAt a b off n c (setAll G o vs W) :=
  ⟨h.at_, fun hn => Nat.lt_of_lt_of_le (h.lt hn) (setAll_below (B := 0) (w := W) (Nat.zero_le _) vs o W (Below.refl _ _)).size, fun k j hk hj => by
    rw [setAll_other _ _ _ _ (fun j' _ e => hne (by injection e))]
    exact h.cell k j hk hj⟩

theorem own3 {W : World} {B : Nat} {u v x : Value} (k0 : W.cell? ⟨B, 0, none⟩ = some u) (k1 : W.cell? ⟨B, 1, none⟩ = some v) (k2 : W.cell? ⟨B, 2, none⟩ = some x) : (∀ p, (W.setCell ⟨B, 0, none⟩ p).cell? ⟨B, 0, none⟩ = some p) ∧ (∀ p q, ((W.setCell ⟨B, 0, none⟩ p).setCell ⟨B, 1, none⟩ q).cell? ⟨B, 1, none⟩ = some q) ∧ (∀ p q r, (((W.setCell ⟨B, 0, none⟩ p).setCell ⟨B, 1, none⟩ q).setCell ⟨B, 2, none⟩ r).cell? ⟨B, 2, none⟩ = some r) :=
  ⟨fun _ => World.cell?_setCell_same _ _ _ k0, fun _ _ => World.cell?_setCell_same _ _ _ (u := v) (by rw [World.cell?_setCell_other _ _ _ _ (by simp)]; exact k1), fun _ _ _ => World.cell?_setCell_same _ _ _ (u := x) (by rw [World.cell?_setCell_other _ _ _ _ (by simp), World.cell?_setCell_other _ _ _ _ (by simp)]; exact k2)⟩
end Go.Proofs.Ytiehokibfdaleaa
