/- The program's calls of a procedure: eachOnce. -/
import Derived.Test.YtndedplmcjfgeaaGrfO
import Derived.Test.YtndedplmcjfgeaaGrfQ
import Derived.Test.YtndedplmcjfgeaaHeld8
import Derived.Test.YtndedplmcjfgeaaShelf
import Derived.Lib.OwnBridge
import Derived.Sort.Grow
namespace Go.Proofs.Ytndedplmcjfgeaa
open Go.ChangeShapes Go.WideShapes Go.ChangeAt Go.RowKit

theorem below_grow {B : Nat} {w0 w : World} (h : Below B w0 w) (hB : B ≤ w.heap.size) (os : Array Obj) : Below B w0 (Go.Sort.grow w os) :=
  ⟨h.os, h.tape, h.output, by have := h.size; simp; omega, fun k hk => (Go.Sort.heap_grow_old w os (by omega)).trans (h.block k hk)⟩
theorem once_nil : onceL [] = [] := by
  have := (onceL_spec []).2
  refine List.eq_nil_iff_forall_not_mem.2 fun x hx => ?_
  have := (this x).1 hx
  simp at this
theorem once_len (l : List Int) : (onceL l).length ≤ l.length := by
  unfold onceL
  have h : (Go.Lib.compact (l.mergeSort fun x y => decide (x ≤ y))).length ≤ (l.mergeSort fun x y => decide (x ≤ y)).length := by
    unfold Go.Lib.compact Go.Lib.compactUpTo
    rw [List.length_map]
    refine Nat.le_trans (List.length_filter_le _ _) ?_
    simp
  rwa [List.length_mergeSort] at h

set_option maxHeartbeats 4000000 in
theorem eachOnceI (B : Nat) (v : Value) (zs : List Int) (w : World) (hO : Owns B 3 v zs w) (hB : B ≤ w.heap.size) (hl : zs.length ≤ 1000) :
    Calls Try.prog 82 #[v] w fun e w' => ∃ v', e = .returned v' ∧ Made B v' (onceL zs) w' ∧ Below B w w' := by
  by_cases h0 : zs = []
  · subst h0
    obtain ⟨p, cap, rfl⟩ : ∃ p cap, v = .slice p 0 cap := by
      rcases hO.2 with ⟨rfl, _⟩ | ⟨g, cap, cur, rfl, _⟩
      · exact ⟨none, 0, rfl⟩
      · exact ⟨_, cap, rfl⟩
    go_enter Try.func82, Try.ntmps82
    go_wp2_with fail
    refine (Try.slices_Sort_int_none _ _ _).mono ?_
    rintro e w1 ⟨rfl, rfl⟩
    go_wp2_with fail
    refine (Try.slices_Compact_int_empty _ _ _).mono ?_
    rintro e w1 ⟨rfl, rfl⟩
    go_wp2_with fail
    go_ret
    exact ⟨_, rfl, by rw [once_nil]; exact Made.nil _ _ _ _, Below.refl _ _⟩
  · have hO' := hO
    obtain ⟨g, cap, rfl, hBg, hg, hcap, hmax, hlen, hH⟩ := Go.Lib.holds_of_ownsRow (enc := Value.int .i64) (zs := zs) hO' (by
      rintro rfl
      rcases hO.2 with ⟨_, h⟩ | ⟨g, cap, cur, h, _⟩
      · exact h0 (List.eq_nil_of_length_eq_zero h)
      · cases h)
    have hfr : ∀ j, w.frozen? ⟨g, j, none⟩ = false := by
      rcases hO.2 with ⟨h, _⟩ | ⟨g', cap', cur, h, _, hg', _⟩
      · cases h
      · intro j
        injection h with h _ _
        injection h with h
        injection h with h
        subst h
        simp [World.frozen?, hg']
    clear hO hO'
    obtain ⟨ks, hks⟩ : ∃ ks, ks = zs.mergeSort (fun x y => decide (x ≤ y)) := ⟨_, rfl⟩
    have hkl : ks.length = zs.length := by rw [hks, List.length_mergeSort]
    have hoS : Hid (onceL zs = Go.Lib.compact ks) := by
      show onceL zs = Go.Lib.compact ks
      rw [hks]; rfl
    have hcl : (Go.Lib.compact ks).length ≤ ks.length := by
      have := once_len zs
      rw [hoS.out] at this
      omega
    have hksS : Hid (ks = zs.mergeSort (fun x y => decide (x ≤ y))) := hks
    clear hks
    go_enter Try.func82, Try.ntmps82
    go_wp2_with fail
    refine (Try.slices_Sort_int _ _ _ _ _ hH hg (by omega)).mono ?_
    rintro e w1 ⟨rfl, n, os, rfl⟩
    rw [← hksS.out]
    have hH1 : Go.Sort.Holds (Value.int .i64) (Go.Sort.grow (Go.Sort.putRow (Value.int .i64) (Go.Sort.ahead w n) g 0 ks.toArray) os) g 0 ks.toArray :=
      Go.Sort.holds_grow _ _ _ _ _ _ (by simpa using hg) (Go.Sort.holds_putRow _ _ _ _ zs.toArray _ hH (by simpa using hkl))
    have hfr1 : ∀ j, (Go.Sort.grow (Go.Sort.putRow (Value.int .i64) (Go.Sort.ahead w n) g 0 ks.toArray) os).frozen? ⟨g, j, none⟩ = false := fun j => by
      rw [Go.Sort.frozen?_grow _ _ _ (by simpa using hg), Go.Sort.frozen?_putRow]
      exact hfr j
    have hb1 : Below B w (Go.Sort.grow (Go.Sort.putRow (Value.int .i64) (Go.Sort.ahead w n) g 0 ks.toArray) os) := below_grow (Go.Lib.below_putRow (Below.refl _ _) hBg) (by simpa using hB) os
    have hg1 : g < (Go.Sort.grow (Go.Sort.putRow (Value.int .i64) (Go.Sort.ahead w n) g 0 ks.toArray) os).heap.size := by simp; omega
    generalize Go.Sort.grow (Go.Sort.putRow (Value.int .i64) (Go.Sort.ahead w n) g 0 ks.toArray) os = W1 at hH1 hfr1 hb1 hg1 ⊢
    clear hH hfr
    go_wp2_with fail
    rw [← hkl]
    refine (Try.slices_Compact_int _ _ _ _ _ hH1 (by omega) (by omega)).mono ?_
    rintro e w2 ⟨rfl, q, rfl⟩
    obtain ⟨ys, hys⟩ : ∃ ys, ys = Go.Lib.compact ks ++ List.replicate (ks.length - (Go.Lib.compact ks).length) 0 := ⟨_, rfl⟩
    have hyl : ys.length = ks.length := by rw [hys]; simp; omega
    rw [← hys]
    have hysS : Hid (ys = Go.Lib.compact ks ++ List.replicate (ks.length - (Go.Lib.compact ks).length) 0) := hys
    clear hys
    go_wp2_with fail
    go_ret
    refine ⟨_, rfl, ?_, Below.trans hb1 (Go.Lib.below_putRow (Below.refl _ _) hBg)⟩
    rw [hoS.out]
    refine ⟨_, cap, g, rfl, ⟨fun _ => rfl, fun _ => ⟨hBg, by rw [Go.Sort.size_putRow, Go.Sort.heap_ahead]; exact hg1⟩, fun j hj => ?_, fun _ j => by rw [Go.Sort.frozen?_putRow]; exact hfr1 j⟩⟩
    have := Go.Sort.cell?_putRow (Value.int .i64) (Go.Sort.ahead W1 q) g 0 ks.toArray ys.toArray hH1 (by simpa using hyl) j (by simp; omega)
    rw [Nat.zero_add] at this
    rw [this, hysS.out]
    congr 2
    rw [getElem!_pos _ j (by simp; omega)]
    simp [hj]
end Go.Proofs.Ytndedplmcjfgeaa
