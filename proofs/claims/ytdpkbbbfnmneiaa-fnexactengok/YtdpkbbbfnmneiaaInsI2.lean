/- The program's InsOk, kind by kind: it answers whether all that the kind does not have is 0, and what it has fits. -/
import Derived.Test.YtdpkbbbfnmneiaaInsI
import Derived.Deep.RegionWith
namespace Go.Proofs.Ytdpkbbbfnmneiaa
open Go.ChangeShapes Go.WideShapes Go.ChangeAt Go.RowKit

set_option maxRecDepth 10000 in
set_option maxHeartbeats 4000000 in
theorem insOkI_5 (d a b r l h t p s : Int) (w : World) :
    Calls Try.prog 103 #[.agg #[.int .i64 5, .int .i64 d, .int .i64 a, .int .i64 b, .int .i64 r, .int .i64 l, .int .i64 h, .int .i64 t], .int .i64 p, .int .i64 s] w fun e w' => e = .returned (.bool (formB 5 d a b r l h t && (inB d 0 3 && itvOk l h))) ∧ Below w.heap.size w w' := by
  have b0 : Below w.heap.size w (w.alloc (.cells #[.int .i64 5, .int .i64 d, .int .i64 a, .int .i64 b, .int .i64 r, .int .i64 l, .int .i64 h, .int .i64 t] 72)) := (Below.refl _ _).alloc (Nat.le_refl _) _
  have m1 : ∀ w, (method 334 171 (.agg #[.int .i64 d, .int .i64 l, .int .i64 h]) "loop.example/outwork/impl.ins").run Try.prog w = .ok (160, .agg #[.int .i64 d, .int .i64 l, .int .i64 h]) w := fun w => by kernel_rfl
  have m2 : ∀ w, (method 334 171 (.agg #[.int .i64 d, .int .i64 l, .int .i64 h]) "loop.example/outwork/impl.fits").run Try.prog w = .ok (159, .agg #[.int .i64 d, .int .i64 l, .int .i64 h]) w := fun w => by kernel_rfl
  have hq : ∀ w : World, (binOp .eql 72 (.agg #[.int .i64 5, .int .i64 d, .int .i64 0, .int .i64 0, .int .i64 0, .int .i64 l, .int .i64 h, .int .i64 0]) (.agg #[.int .i64 5, .int .i64 d, .int .i64 a, .int .i64 b, .int .i64 r, .int .i64 l, .int .i64 h, .int .i64 t])).run Try.prog w = .ok (.bool (formB 5 d a b r l h t)) w := fun w => (eqlIns _ _ _ _ _ _ _ _ _ _ _ _ _ _ _ _ _).trans (by simp [formB, Bool.and_assoc, BEq.comm])
  cases hQ : formB 5 d a b r l h t
  · rw [hQ] at hq
    go_enter Try.func103, Try.ntmps103
    go_wp2_with fail
    refine (stepOfI_5 _ _ _ _ _ _ _ _).mono ?_
    rintro e w1 ⟨rfl, hb⟩
    have b2 := b0.trans (hb.mono (by simp))
    obtain ⟨hc, hf⟩ := bcell hb
    go_wp2_with fail
    first | go_region_with (first | (go_at_call 160; refine (anyIns _ _ _ _).mono ?_; rintro e w2 ⟨rfl, hb2⟩; obtain ⟨hc2, hf2⟩ := bcell (below_tr hb.drew hb2)) ) | fail
    all_goals go_wp2_with fail
    all_goals go_ret
    all_goals exact ⟨rfl, by first | exact b2.drew.trans (hb2.mono (by have := b2.size; first | exact this | (simp; omega)))⟩
  · rw [hQ] at hq
    go_enter Try.func103, Try.ntmps103
    go_wp2_with fail
    refine (stepOfI_5 _ _ _ _ _ _ _ _).mono ?_
    rintro e w1 ⟨rfl, hb⟩
    have b2 := b0.trans (hb.mono (by simp))
    obtain ⟨hc, hf⟩ := bcell hb
    go_wp2_with fail
    first | go_region_with (first | (go_at_call 160; refine (anyIns _ _ _ _).mono ?_; rintro e w2 ⟨rfl, hb2⟩; obtain ⟨hc2, hf2⟩ := bcell (below_tr hb.drew hb2)) | (go_at_call 159; refine (anyFits _ _ _ _ _ _).mono ?_; rintro e w3 ⟨rfl, hb3⟩)) | fail
    all_goals go_wp2_with fail
    all_goals go_ret
    all_goals exact ⟨rfl, by first | exact (b2.drew.trans (hb2.mono (by have := b2.size; first | exact this | (simp; omega)))).trans (hb3.mono (by have := b2.size; have := hb2.size; first | omega | (simp at *; omega)))⟩

set_option maxRecDepth 10000 in
set_option maxHeartbeats 4000000 in
theorem insOkI_6 (d a b r l h t p s : Int) (w : World) :
    Calls Try.prog 103 #[.agg #[.int .i64 6, .int .i64 d, .int .i64 a, .int .i64 b, .int .i64 r, .int .i64 l, .int .i64 h, .int .i64 t], .int .i64 p, .int .i64 s] w fun e w' => e = .returned (.bool (formB 6 d a b r l h t && ((inB d 0 3 && inB a 0 3)))) ∧ Below w.heap.size w w' := by
  have b0 : Below w.heap.size w (w.alloc (.cells #[.int .i64 6, .int .i64 d, .int .i64 a, .int .i64 b, .int .i64 r, .int .i64 l, .int .i64 h, .int .i64 t] 72)) := (Below.refl _ _).alloc (Nat.le_refl _) _
  have m1 : ∀ w, (method 334 162 (.agg #[.int .i64 d, .int .i64 a]) "loop.example/outwork/impl.ins").run Try.prog w = .ok (151, .agg #[.int .i64 d, .int .i64 a]) w := fun w => by kernel_rfl
  have m2 : ∀ w, (method 334 162 (.agg #[.int .i64 d, .int .i64 a]) "loop.example/outwork/impl.fits").run Try.prog w = .ok (150, .agg #[.int .i64 d, .int .i64 a]) w := fun w => by kernel_rfl
  have hq : ∀ w : World, (binOp .eql 72 (.agg #[.int .i64 6, .int .i64 d, .int .i64 a, .int .i64 0, .int .i64 0, .int .i64 0, .int .i64 0, .int .i64 0]) (.agg #[.int .i64 6, .int .i64 d, .int .i64 a, .int .i64 b, .int .i64 r, .int .i64 l, .int .i64 h, .int .i64 t])).run Try.prog w = .ok (.bool (formB 6 d a b r l h t)) w := fun w => (eqlIns _ _ _ _ _ _ _ _ _ _ _ _ _ _ _ _ _).trans (by simp [formB, Bool.and_assoc, BEq.comm])
  cases hQ : formB 6 d a b r l h t
  · rw [hQ] at hq
    go_enter Try.func103, Try.ntmps103
    go_wp2_with fail
    refine (stepOfI_6 _ _ _ _ _ _ _ _).mono ?_
    rintro e w1 ⟨rfl, hb⟩
    have b2 := b0.trans (hb.mono (by simp))
    obtain ⟨hc, hf⟩ := bcell hb
    go_wp2_with fail
    first | go_region_with (first | (go_at_call 151; refine (loadIns _ _ _).mono ?_; rintro e w2 ⟨rfl, hb2⟩; obtain ⟨hc2, hf2⟩ := bcell (below_tr hb.drew hb2)) ) | fail
    all_goals go_wp2_with fail
    all_goals go_ret
    all_goals exact ⟨rfl, by first | exact b2.drew.trans (hb2.mono (by have := b2.size; first | exact this | (simp; omega)))⟩
  · rw [hQ] at hq
    go_enter Try.func103, Try.ntmps103
    go_wp2_with fail
    refine (stepOfI_6 _ _ _ _ _ _ _ _).mono ?_
    rintro e w1 ⟨rfl, hb⟩
    have b2 := b0.trans (hb.mono (by simp))
    obtain ⟨hc, hf⟩ := bcell hb
    go_wp2_with fail
    first | go_region_with (first | (go_at_call 151; refine (loadIns _ _ _).mono ?_; rintro e w2 ⟨rfl, hb2⟩; obtain ⟨hc2, hf2⟩ := bcell (below_tr hb.drew hb2)) | (go_at_call 150; refine (loadFits _ _ _ _ _).mono ?_; rintro e w3 ⟨rfl, hb3⟩)) | fail
    all_goals go_wp2_with fail
    all_goals go_ret
    all_goals exact ⟨rfl, by first | exact (b2.drew.trans (hb2.mono (by have := b2.size; first | exact this | (simp; omega)))).trans (hb3.mono (by have := b2.size; have := hb2.size; first | omega | (simp at *; omega)))⟩

set_option maxRecDepth 10000 in
set_option maxHeartbeats 4000000 in
theorem insOkI_7 (d a b r l h t p s : Int) (w : World) :
    Calls Try.prog 103 #[.agg #[.int .i64 7, .int .i64 d, .int .i64 a, .int .i64 b, .int .i64 r, .int .i64 l, .int .i64 h, .int .i64 t], .int .i64 p, .int .i64 s] w fun e w' => e = .returned (.bool (formB 7 d a b r l h t && ((inB a 0 3 && inB b 0 3)))) ∧ Below w.heap.size w w' := by
  have b0 : Below w.heap.size w (w.alloc (.cells #[.int .i64 7, .int .i64 d, .int .i64 a, .int .i64 b, .int .i64 r, .int .i64 l, .int .i64 h, .int .i64 t] 72)) := (Below.refl _ _).alloc (Nat.le_refl _) _
  have m1 : ∀ w, (method 334 164 (.agg #[.int .i64 a, .int .i64 b]) "loop.example/outwork/impl.ins").run Try.prog w = .ok (153, .agg #[.int .i64 a, .int .i64 b]) w := fun w => by kernel_rfl
  have m2 : ∀ w, (method 334 164 (.agg #[.int .i64 a, .int .i64 b]) "loop.example/outwork/impl.fits").run Try.prog w = .ok (152, .agg #[.int .i64 a, .int .i64 b]) w := fun w => by kernel_rfl
  have hq : ∀ w : World, (binOp .eql 72 (.agg #[.int .i64 7, .int .i64 0, .int .i64 a, .int .i64 b, .int .i64 0, .int .i64 0, .int .i64 0, .int .i64 0]) (.agg #[.int .i64 7, .int .i64 d, .int .i64 a, .int .i64 b, .int .i64 r, .int .i64 l, .int .i64 h, .int .i64 t])).run Try.prog w = .ok (.bool (formB 7 d a b r l h t)) w := fun w => (eqlIns _ _ _ _ _ _ _ _ _ _ _ _ _ _ _ _ _).trans (by simp [formB, Bool.and_assoc, BEq.comm])
  cases hQ : formB 7 d a b r l h t
  · rw [hQ] at hq
    go_enter Try.func103, Try.ntmps103
    go_wp2_with fail
    refine (stepOfI_7 _ _ _ _ _ _ _ _).mono ?_
    rintro e w1 ⟨rfl, hb⟩
    have b2 := b0.trans (hb.mono (by simp))
    obtain ⟨hc, hf⟩ := bcell hb
    go_wp2_with fail
    first | go_region_with (first | (go_at_call 153; refine (storeIns _ _ _).mono ?_; rintro e w2 ⟨rfl, hb2⟩; obtain ⟨hc2, hf2⟩ := bcell (below_tr hb.drew hb2)) ) | fail
    all_goals go_wp2_with fail
    all_goals go_ret
    all_goals exact ⟨rfl, by first | exact b2.drew.trans (hb2.mono (by have := b2.size; first | exact this | (simp; omega)))⟩
  · rw [hQ] at hq
    go_enter Try.func103, Try.ntmps103
    go_wp2_with fail
    refine (stepOfI_7 _ _ _ _ _ _ _ _).mono ?_
    rintro e w1 ⟨rfl, hb⟩
    have b2 := b0.trans (hb.mono (by simp))
    obtain ⟨hc, hf⟩ := bcell hb
    go_wp2_with fail
    first | go_region_with (first | (go_at_call 153; refine (storeIns _ _ _).mono ?_; rintro e w2 ⟨rfl, hb2⟩; obtain ⟨hc2, hf2⟩ := bcell (below_tr hb.drew hb2)) | (go_at_call 152; refine (storeFits _ _ _ _ _).mono ?_; rintro e w3 ⟨rfl, hb3⟩)) | fail
    all_goals go_wp2_with fail
    all_goals go_ret
    all_goals exact ⟨rfl, by first | exact (b2.drew.trans (hb2.mono (by have := b2.size; first | exact this | (simp; omega)))).trans (hb3.mono (by have := b2.size; have := hb2.size; first | omega | (simp at *; omega)))⟩

set_option maxRecDepth 10000 in
set_option maxHeartbeats 4000000 in
theorem insOkI_8 (d a b r l h t p s : Int) (w : World) :
    Calls Try.prog 103 #[.agg #[.int .i64 8, .int .i64 d, .int .i64 a, .int .i64 b, .int .i64 r, .int .i64 l, .int .i64 h, .int .i64 t], .int .i64 p, .int .i64 s] w fun e w' => e = .returned (.bool (formB 8 d a b r l h t && (inB r 1 4 && (inB a 0 3 && inB b 0 3) && placeB t s))) ∧ Below w.heap.size w w' := by
  have b0 : Below w.heap.size w (w.alloc (.cells #[.int .i64 8, .int .i64 d, .int .i64 a, .int .i64 b, .int .i64 r, .int .i64 l, .int .i64 h, .int .i64 t] 72)) := (Below.refl _ _).alloc (Nat.le_refl _) _
  have m1 : ∀ w, (method 334 173 (.agg #[.int .i64 a, .int .i64 r, .int .i64 b, .int .i64 t]) "loop.example/outwork/impl.ins").run Try.prog w = .ok (162, .agg #[.int .i64 a, .int .i64 r, .int .i64 b, .int .i64 t]) w := fun w => by kernel_rfl
  have m2 : ∀ w, (method 334 173 (.agg #[.int .i64 a, .int .i64 r, .int .i64 b, .int .i64 t]) "loop.example/outwork/impl.fits").run Try.prog w = .ok (161, .agg #[.int .i64 a, .int .i64 r, .int .i64 b, .int .i64 t]) w := fun w => by kernel_rfl
  have hq : ∀ w : World, (binOp .eql 72 (.agg #[.int .i64 8, .int .i64 0, .int .i64 a, .int .i64 b, .int .i64 r, .int .i64 0, .int .i64 0, .int .i64 t]) (.agg #[.int .i64 8, .int .i64 d, .int .i64 a, .int .i64 b, .int .i64 r, .int .i64 l, .int .i64 h, .int .i64 t])).run Try.prog w = .ok (.bool (formB 8 d a b r l h t)) w := fun w => (eqlIns _ _ _ _ _ _ _ _ _ _ _ _ _ _ _ _ _).trans (by simp [formB, Bool.and_assoc, BEq.comm])
  cases hQ : formB 8 d a b r l h t
  · rw [hQ] at hq
    go_enter Try.func103, Try.ntmps103
    go_wp2_with fail
    refine (stepOfI_8 _ _ _ _ _ _ _ _).mono ?_
    rintro e w1 ⟨rfl, hb⟩
    have b2 := b0.trans (hb.mono (by simp))
    obtain ⟨hc, hf⟩ := bcell hb
    go_wp2_with fail
    first | go_region_with (first | (go_at_call 162; refine (ifIns _ _ _ _ _).mono ?_; rintro e w2 ⟨rfl, hb2⟩; obtain ⟨hc2, hf2⟩ := bcell (below_tr hb.drew hb2)) ) | fail
    all_goals go_wp2_with fail
    all_goals go_ret
    all_goals exact ⟨rfl, by first | exact b2.drew.trans (hb2.mono (by have := b2.size; first | exact this | (simp; omega)))⟩
  · rw [hQ] at hq
    go_enter Try.func103, Try.ntmps103
    go_wp2_with fail
    refine (stepOfI_8 _ _ _ _ _ _ _ _).mono ?_
    rintro e w1 ⟨rfl, hb⟩
    have b2 := b0.trans (hb.mono (by simp))
    obtain ⟨hc, hf⟩ := bcell hb
    go_wp2_with fail
    first | go_region_with (first | (go_at_call 162; refine (ifIns _ _ _ _ _).mono ?_; rintro e w2 ⟨rfl, hb2⟩; obtain ⟨hc2, hf2⟩ := bcell (below_tr hb.drew hb2)) | (go_at_call 161; refine (ifFits _ _ _ _ _ _ _).mono ?_; rintro e w3 ⟨rfl, hb3⟩)) | fail
    all_goals go_wp2_with fail
    all_goals go_ret
    all_goals exact ⟨rfl, by first | exact (b2.drew.trans (hb2.mono (by have := b2.size; first | exact this | (simp; omega)))).trans (hb3.mono (by have := b2.size; have := hb2.size; first | omega | (simp at *; omega)))⟩
end Go.Proofs.Ytdpkbbbfnmneiaa
