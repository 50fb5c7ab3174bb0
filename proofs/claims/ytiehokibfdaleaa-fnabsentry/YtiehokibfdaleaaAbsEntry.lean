/- AbsEntry, the model's and the program's: each answers a state of its own. -/
import Derived.Test.YtiehokibfdaleaaArrSt
import Derived.Test.YtiehokibfdaleaaGiven
namespace Go.Proofs.Ytiehokibfdaleaa
open Go.ChangeShapes Go.WideShapes Go.ChangeAt Go.RowKit
set_option linter.unusedVariables false
def entN (lo hi : Int) : Nat := if itvOk lo hi = true then 4 else 0
def entF (x : Int) : Nat → Int := setF (fun _ => 0) 0 x
set_option maxRecDepth 10000 in
set_option maxHeartbeats 8000000 in
theorem absEntryS (lo hi : Int) (a : Option Addr) (n cap : Nat) (w : World) :
    Calls Try.prog 21 #[.agg #[.int .i64 lo, .int .i64 hi, .slice a n cap]] w fun e w' => ∃ v, e = .returned v ∧ StIs w.heap.size (itvOk lo hi) (entN lo hi) (entF lo) (entF hi) 0 0 v w' ∧ Below w.heap.size w w' := by
  have H : HeldL w [(w.heap.size + 1, [Value.bool false, .slice none 0 0, .int .i64 0, .int .i64 0]), (w.heap.size, [Value.int .i64 lo, .int .i64 hi, .slice a n cap])] ((w.alloc (.cells #[.int .i64 lo, .int .i64 hi, .slice a n cap] 41)).alloc (.cells #[.bool false, .slice none 0 0, .int .i64 0, .int .i64 0] 27)) := by
    have e1 : w.heap.size + 1 = (w.alloc (.cells #[.int .i64 lo, .int .i64 hi, .slice a n cap] 41)).heap.size := by simp
    rw [e1]
    exact HeldL.newL (vs := [Value.bool false, .slice none 0 0, .int .i64 0, .int .i64 0]) (HeldL.newL (vs := [Value.int .i64 lo, .int .i64 hi, .slice a n cap]) (HeldL.nil w))
  go_enter Try.func21, Try.ntmps21
  go_wp2_with fail
  have ka : Below ((w.alloc (.cells #[.int .i64 lo, .int .i64 hi, .slice a n cap] 41)).alloc (.cells #[.bool false, .slice none 0 0, .int .i64 0, .int .i64 0] 27)).heap.size ((w.alloc (.cells #[.int .i64 lo, .int .i64 hi, .slice a n cap] 41)).alloc (.cells #[.bool false, .slice none 0 0, .int .i64 0, .int .i64 0] 27)) (((w.alloc (.cells #[.int .i64 lo, .int .i64 hi, .slice a n cap] 41)).alloc (.cells #[.bool false, .slice none 0 0, .int .i64 0, .int .i64 0] 27)).alloc (.cells #[.int .i64 lo, .int .i64 hi] 25)) := (Below.refl _ _).alloc (Nat.le_refl _) _
  replace H := H.next ka
  obtain ⟨X, hX⟩ : ∃ x, x = w.heap.size + 1 + 1 := ⟨_, rfl⟩
  have c0 : (((w.alloc (.cells #[.int .i64 lo, .int .i64 hi, .slice a n cap] 41)).alloc (.cells #[.bool false, .slice none 0 0, .int .i64 0, .int .i64 0] 27)).alloc (.cells #[.int .i64 lo, .int .i64 hi] 25)).cell? ⟨X, 0, none⟩ = some (.int .i64 lo) := by rw [hX]; simp [go_sem]
  have c1 : (((w.alloc (.cells #[.int .i64 lo, .int .i64 hi, .slice a n cap] 41)).alloc (.cells #[.bool false, .slice none 0 0, .int .i64 0, .int .i64 0] 27)).alloc (.cells #[.int .i64 lo, .int .i64 hi] 25)).cell? ⟨X, 1, none⟩ = some (.int .i64 hi) := by rw [hX]; simp [go_sem]
  have cz : X < (((w.alloc (.cells #[.int .i64 lo, .int .i64 hi, .slice a n cap] 41)).alloc (.cells #[.bool false, .slice none 0 0, .int .i64 0, .int .i64 0] 27)).alloc (.cells #[.int .i64 lo, .int .i64 hi] 25)).heap.size := by rw [hX]; simp
  have hXS : Hid (X = w.heap.size + 1 + 1) := hX
  clear hX ka
  rw [← hXS.out]
  clear hXS
  refine (itvOkS _ _ _).mono ?_
  rintro e w1 ⟨rfl, hb⟩
  replace H := H.next hb
  replace c0 := (hb.cell (p := ⟨X, 0, none⟩) cz).trans c0
  replace c1 := (hb.cell (p := ⟨X, 1, none⟩) cz).trans c1
  clear hb cz
  cases g : itvOk lo hi
  · have r0 := H.cell List.mem_cons_self (i := 0) rfl
    have r1 := H.cell List.mem_cons_self (i := 1) rfl
    have r2 := H.cell List.mem_cons_self (i := 2) rfl
    have r3 := H.cell List.mem_cons_self (i := 3) rfl
    have fr := H.free _ List.mem_cons_self
    dsimp only at r0 r1 r2 r3 fr
    obtain ⟨e0, e1, e2, e3⟩ := own4c r0 r1 r2 r3
    have bE := H.below
    go_wp2_with fail
    refine bodyPost_ret (v := .agg #[.bool false, .slice none 0 0, .int .i64 0, .int .i64 0]) (by first | (simp [results, Try.results21, go_sem, r0, r1, r2, r3]; done) | simp [results, Try.results21, go_sem, e0, e1, e2, e3]) rfl ⟨_, rfl, by rw [show entN lo hi = 0 by simp [entN, g], g]; exact ⟨none, 0, 0, rfl, BndsIs.nil0 _ _ _ _⟩, ?_⟩
    first | exact setAll_below (g := w.heap.size + 1) (by omega) [.bool false, .slice none 0 0, .int .i64 0, .int .i64 0] 0 _ bE | exact bE
  obtain ⟨g1, hg1⟩ : ∃ g, g = w1.heap.size := ⟨_, rfl⟩
  have hz1 : w.heap.size + 1 < w1.heap.size := H.size List.mem_cons_self
  have hB : ∀ W2 : World, W2.heap.size = g1 → BndsIs (w.heap.size + 1 + 1) 4 (entF lo) (entF hi) (some ⟨g1, 0, none⟩) g1 (W2.alloc (.cells #[.int .i64 lo, .int .i64 hi, .int .i64 0, .int .i64 0, .int .i64 0, .int .i64 0, .int .i64 0, .int .i64 0] 25)) := by
    intro W2 e2
    have hz2 : w.heap.size + 1 < W2.heap.size := by omega
    clear hg1
    subst e2
    refine ⟨fun _ => by omega, fun _ i => World.frozen?_alloc_new _ _ _ _, ⟨fun _ => rfl, fun _ => by simp, fun k hk => ?_, fun k hk => ?_⟩⟩
    · rcases (show k = 0 ∨ k = 1 ∨ k = 2 ∨ k = 3 by omega) with rfl | rfl | rfl | rfl <;> (unfold World.cell?; rw [heap_alloc_new]; simp [entF, setF])
    · rcases (show k = 0 ∨ k = 1 ∨ k = 2 ∨ k = 3 by omega) with rfl | rfl | rfl | rfl <;> (unfold World.cell?; rw [heap_alloc_new]; simp [entF, setF])
  have hBS : Hid (∀ W2 : World, W2.heap.size = g1 → BndsIs (w.heap.size + 1 + 1) 4 (entF lo) (entF hi) (some ⟨g1, 0, none⟩) g1 (W2.alloc (.cells #[.int .i64 lo, .int .i64 hi, .int .i64 0, .int .i64 0, .int .i64 0, .int .i64 0, .int .i64 0, .int .i64 0] 25))) := hB
  have hgS : Hid (g1 = w1.heap.size) := hg1
  clear hg1 hB
  have r0 := H.cell List.mem_cons_self (i := 0) rfl
  have r1 := H.cell List.mem_cons_self (i := 1) rfl
  have r2 := H.cell List.mem_cons_self (i := 2) rfl
  have r3 := H.cell List.mem_cons_self (i := 3) rfl
  have fr := H.free _ List.mem_cons_self
  dsimp only at r0 r1 r2 r3 fr
  obtain ⟨e0, e1, e2, e3⟩ := own4c r0 r1 r2 r3
  have bE := H.below
  go_wp2_with fail
  rw [← hgS.out]
  have q : ∀ i v, (setAll (w.heap.size + 1) 0 [.bool true, .slice (some ⟨g1, 0, none⟩) 4 4, .int .i64 0, .int .i64 0] w1).cell? ⟨w.heap.size + 1, i, none⟩ = some v → ((setAll (w.heap.size + 1) 0 [.bool true, .slice (some ⟨g1, 0, none⟩) 4 4, .int .i64 0, .int .i64 0] w1).alloc (.cells #[.int .i64 lo, .int .i64 hi, .int .i64 0, .int .i64 0, .int .i64 0, .int .i64 0, .int .i64 0, .int .i64 0] 25)).cell? ⟨w.heap.size + 1, i, none⟩ = some v := fun i v hv => by
    rw [World.cell?_alloc_lt _ _ _ (by have := (setAll_below (B := 0) (g := w.heap.size + 1) (Nat.zero_le _) [.bool true, .slice (some ⟨g1, 0, none⟩) 4 4, .int .i64 0, .int .i64 0] 0 w1 (Below.refl _ _)).size; dsimp only; omega)]
    exact hv
  have hs : ∀ j, j < ([.bool true, .slice (some ⟨g1, 0, none⟩) 4 4, .int .i64 0, .int .i64 0] : List Value).length → (w1.cell? ⟨w.heap.size + 1, 0 + j, none⟩).isSome = true := fun j hj => by
    have hj' : j < 4 := by simpa using hj
    rw [Nat.zero_add]
    rcases (show j = 0 ∨ j = 1 ∨ j = 2 ∨ j = 3 by omega) with rfl | rfl | rfl | rfl
    · rw [r0]; rfl
    · rw [r1]; rfl
    · rw [r2]; rfl
    · rw [r3]; rfl
  have z0 := q 0 (.bool true) (setAll_at [.bool true, .slice (some ⟨g1, 0, none⟩) 4 4, .int .i64 0, .int .i64 0] 0 w1 0 (.bool true) hs rfl)
  have z1 := q 1 (.slice (some ⟨g1, 0, none⟩) 4 4) (by have := setAll_at [.bool true, .slice (some ⟨g1, 0, none⟩) 4 4, .int .i64 0, .int .i64 0] 0 w1 1 (.slice (some ⟨g1, 0, none⟩) 4 4) hs rfl; rwa [Nat.zero_add] at this)
  have z2 := q 2 (.int .i64 0) (by have := setAll_at [.bool true, .slice (some ⟨g1, 0, none⟩) 4 4, .int .i64 0, .int .i64 0] 0 w1 2 (.int .i64 0) hs rfl; rwa [Nat.zero_add] at this)
  have z3 := q 3 (.int .i64 0) (by have := setAll_at [.bool true, .slice (some ⟨g1, 0, none⟩) 4 4, .int .i64 0, .int .i64 0] 0 w1 3 (.int .i64 0) hs rfl; rwa [Nat.zero_add] at this)
  simp only [setAll, Nat.reduceAdd] at z0 z1 z2 z3
  refine bodyPost_ret (v := .agg #[.bool true, .slice (some ⟨g1, 0, none⟩) 4 4, .int .i64 0, .int .i64 0]) (by simp [results, Try.results21, go_sem, z0, z1, z2, z3]) rfl ⟨_, rfl, ?_, ?_⟩
  · rw [show entN lo hi = 4 by simp [entN, g], g]
    exact ⟨some ⟨g1, 0, none⟩, g1, 4, rfl, (hBS.out _ (by simp [World.setCell]; exact hgS.out.symm)).base (by omega)⟩
  · exact (setAll_below (g := w.heap.size + 1) (by omega) [.bool true, .slice (some ⟨g1, 0, none⟩) 4 4, .int .i64 0, .int .i64 0] 0 _ bE).alloc (by have := (setAll_below (B := 0) (g := w.heap.size + 1) (Nat.zero_le _) [.bool true, .slice (some ⟨g1, 0, none⟩) 4 4, .int .i64 0, .int .i64 0] 0 w1 (Below.refl _ _)).size; omega) _
set_option maxRecDepth 10000 in
set_option maxHeartbeats 8000000 in
theorem absEntryI (lo hi : Int) (a : Option Addr) (n cap : Nat) (w : World) :
    Calls Try.prog 20 #[.agg #[.int .i64 lo, .int .i64 hi, .slice a n cap]] w fun e w' => ∃ v, e = .returned v ∧ StIs w.heap.size (itvOk lo hi) (entN lo hi) (entF lo) (entF hi) 0 0 v w' ∧ Below w.heap.size w w' := by
  have H : HeldL w [(w.heap.size + 1, [Value.bool false, .slice none 0 0, .int .i64 0, .int .i64 0]), (w.heap.size, [Value.int .i64 lo, .int .i64 hi, .slice a n cap])] ((w.alloc (.cells #[.int .i64 lo, .int .i64 hi, .slice a n cap] 41)).alloc (.cells #[.bool false, .slice none 0 0, .int .i64 0, .int .i64 0] 27)) := by
    have e1 : w.heap.size + 1 = (w.alloc (.cells #[.int .i64 lo, .int .i64 hi, .slice a n cap] 41)).heap.size := by simp
    rw [e1]
    exact HeldL.newL (vs := [Value.bool false, .slice none 0 0, .int .i64 0, .int .i64 0]) (HeldL.newL (vs := [Value.int .i64 lo, .int .i64 hi, .slice a n cap]) (HeldL.nil w))
  go_enter Try.func20, Try.ntmps20
  go_wp2_with fail
  refine (givenI _ _ _ _ _ _).mono ?_
  rintro e w0 ⟨rfl, hb0⟩
  have ka : Below w0.heap.size w0 (w0.alloc (.cells #[.int .i64 lo, .int .i64 hi] 25)) := (Below.refl _ _).alloc (Nat.le_refl _) _
  replace H := H.next (below_tr hb0 ka)
  have hw0 : w.heap.size + 1 < w0.heap.size := by have := hb0.size; simp at this; omega
  obtain ⟨X, hX⟩ : ∃ x, x = w0.heap.size := ⟨_, rfl⟩
  have c0 : (w0.alloc (.cells #[.int .i64 lo, .int .i64 hi] 25)).cell? ⟨X, 0, none⟩ = some (.int .i64 lo) := by rw [hX]; simp [go_sem]
  have c1 : (w0.alloc (.cells #[.int .i64 lo, .int .i64 hi] 25)).cell? ⟨X, 1, none⟩ = some (.int .i64 hi) := by rw [hX]; simp [go_sem]
  have cz : X < (w0.alloc (.cells #[.int .i64 lo, .int .i64 hi] 25)).heap.size := by rw [hX]; simp
  have hXS : Hid (X = w0.heap.size) := hX
  clear hX hb0 ka
  go_wp2_with fail
  rw [← hXS.out]
  clear hXS
  refine (itvOkI _ _ _).mono ?_
  rintro e w1 ⟨rfl, hb⟩
  replace H := H.next hb
  replace c0 := (hb.cell (p := ⟨X, 0, none⟩) cz).trans c0
  replace c1 := (hb.cell (p := ⟨X, 1, none⟩) cz).trans c1
  clear hb cz
  cases g : itvOk lo hi
  · have r0 := H.cell List.mem_cons_self (i := 0) rfl
    have r1 := H.cell List.mem_cons_self (i := 1) rfl
    have r2 := H.cell List.mem_cons_self (i := 2) rfl
    have r3 := H.cell List.mem_cons_self (i := 3) rfl
    have fr := H.free _ List.mem_cons_self
    dsimp only at r0 r1 r2 r3 fr
    obtain ⟨e0, e1, e2, e3⟩ := own4c r0 r1 r2 r3
    have bE := H.below
    go_wp2_with fail
    refine bodyPost_ret (v := .agg #[.bool false, .slice none 0 0, .int .i64 0, .int .i64 0]) (by first | (simp [results, Try.results20, go_sem, r0, r1, r2, r3]; done) | simp [results, Try.results20, go_sem, e0, e1, e2, e3]) rfl ⟨_, rfl, by rw [show entN lo hi = 0 by simp [entN, g], g]; exact ⟨none, 0, 0, rfl, BndsIs.nil0 _ _ _ _⟩, ?_⟩
    first | exact setAll_below (g := w.heap.size + 1) (by omega) [.bool false, .slice none 0 0, .int .i64 0, .int .i64 0] 0 _ bE | exact bE
  have hw1 : w.heap.size + 1 < w1.heap.size := H.size List.mem_cons_self
  go_wp2_with fail
  refine (set0 (fun _ => 0) (fun _ => 0) lo hi _).mono ?_
  rintro e w2 ⟨rfl, hb⟩
  replace H := H.next hb
  have hw2 : w.heap.size + 1 < w2.heap.size := H.size List.mem_cons_self
  clear hb c0 c1
  go_wp2_with fail
  refine (stateT (setF (fun _ => 0) 0 lo) (setF (fun _ => 0) 0 hi) _).mono ?_
  rintro e w3 ⟨g1, cc, rfl, hB, hb⟩
  replace H := H.next hb
  clear hb
  have hB' := hB.set (G := w.heap.size + 1) (o := 0) (vs := [.bool true, .slice (some ⟨g1, 0, none⟩) 4 cc, .int .i64 (setF (fun _ => 0) 0 lo 4), .int .i64 (setF (fun _ => 0) 0 hi 4)]) hw2
  have r0 := H.cell List.mem_cons_self (i := 0) rfl
  have r1 := H.cell List.mem_cons_self (i := 1) rfl
  have r2 := H.cell List.mem_cons_self (i := 2) rfl
  have r3 := H.cell List.mem_cons_self (i := 3) rfl
  have fr := H.free _ List.mem_cons_self
  dsimp only at r0 r1 r2 r3 fr
  obtain ⟨e0, e1, e2, e3⟩ := own4c r0 r1 r2 r3
  have bE := H.below
  go_wp2_with fail

  refine bodyPost_ret (v := .agg #[.bool true, .slice (some ⟨g1, 0, none⟩) 4 cc, .int .i64 (setF (fun _ => 0) 0 lo 4), .int .i64 (setF (fun _ => 0) 0 hi 4)]) (by simp [results, Try.results20, go_sem, e0, e1, e2, e3]) rfl ⟨_, rfl, ?_, ?_⟩
  · rw [show entN lo hi = 4 by simp [entN, g], g]
    exact ⟨some ⟨g1, 0, none⟩, g1, cc, rfl, hB'.base (by omega)⟩
  · exact setAll_below (g := w.heap.size + 1) (by omega) [.bool true, .slice (some ⟨g1, 0, none⟩) 4 cc, .int .i64 (setF (fun _ => 0) 0 lo 4), .int .i64 (setF (fun _ => 0) 0 hi 4)] 0 _ bE
end Go.Proofs.Ytiehokibfdaleaa
