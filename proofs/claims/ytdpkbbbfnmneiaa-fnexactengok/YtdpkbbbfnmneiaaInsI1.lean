/- The program's InsOk, kind by kind: it answers whether all that the kind does not have is 0, and what it has fits. -/
import Derived.Test.YtdpkbbbfnmneiaaInsI
import Derived.Deep.RegionWith
namespace Go.Proofs.Ytdpkbbbfnmneiaa
open Go.ChangeShapes Go.WideShapes Go.ChangeAt Go.RowKit

set_option maxRecDepth 10000 in
set_option maxHeartbeats 4000000 in
theorem insOkI_1 (d a b r l h t p s : Int) (w : World) :
    Calls Try.prog 103 #[.agg #[.int .i64 1, .int .i64 d, .int .i64 a, .int .i64 b, .int .i64 r, .int .i64 l, .int .i64 h, .int .i64 t], .int .i64 p, .int .i64 s] w fun e w' => e = .returned (.bool (formB 1 d a b r l h t && ((inB d 0 3 && inB a 0 3 && inB b 0 3)))) ∧ Below w.heap.size w w' := by
  have b0 : Below w.heap.size w (w.alloc (.cells #[.int .i64 1, .int .i64 d, .int .i64 a, .int .i64 b, .int .i64 r, .int .i64 l, .int .i64 h, .int .i64 t] 72)) := (Below.refl _ _).alloc (Nat.le_refl _) _
  have m1 : ∀ w, (method 334 160 (.agg #[.int .i64 1, .int .i64 d, .int .i64 a, .int .i64 b]) "loop.example/outwork/impl.ins").run Try.prog w = .ok (148, .agg #[.int .i64 1, .int .i64 d, .int .i64 a, .int .i64 b]) w := fun w => by kernel_rfl
  have m2 : ∀ w, (method 334 160 (.agg #[.int .i64 1, .int .i64 d, .int .i64 a, .int .i64 b]) "loop.example/outwork/impl.fits").run Try.prog w = .ok (147, .agg #[.int .i64 1, .int .i64 d, .int .i64 a, .int .i64 b]) w := fun w => by kernel_rfl
  have hq : ∀ w : World, (binOp .eql 72 (.agg #[.int .i64 1, .int .i64 d, .int .i64 a, .int .i64 b, .int .i64 0, .int .i64 0, .int .i64 0, .int .i64 0]) (.agg #[.int .i64 1, .int .i64 d, .int .i64 a, .int .i64 b, .int .i64 r, .int .i64 l, .int .i64 h, .int .i64 t])).run Try.prog w = .ok (.bool (formB 1 d a b r l h t)) w := fun w => (eqlIns _ _ _ _ _ _ _ _ _ _ _ _ _ _ _ _ _).trans (by simp [formB, Bool.and_assoc, BEq.comm])
  cases hQ : formB 1 d a b r l h t
  · rw [hQ] at hq
    go_enter Try.func103, Try.ntmps103
    go_wp2_with fail
    refine (stepOfI_1 _ _ _ _ _ _ _ _).mono ?_
    rintro e w1 ⟨rfl, hb⟩
    have b2 := b0.trans (hb.mono (by simp))
    obtain ⟨hc, hf⟩ := bcell hb
    go_wp2_with fail
    first | go_region_with (first | (go_at_call 148; refine (reckonIns _ _ _ _ _).mono ?_; rintro e w2 ⟨rfl, hb2⟩; obtain ⟨hc2, hf2⟩ := bcell (below_tr hb.drew hb2)) ) | fail
    all_goals go_wp2_with fail
    all_goals go_ret
    all_goals exact ⟨rfl, by first | exact b2.drew.trans (hb2.mono (by have := b2.size; first | exact this | (simp; omega)))⟩
  · rw [hQ] at hq
    go_enter Try.func103, Try.ntmps103
    go_wp2_with fail
    refine (stepOfI_1 _ _ _ _ _ _ _ _).mono ?_
    rintro e w1 ⟨rfl, hb⟩
    have b2 := b0.trans (hb.mono (by simp))
    obtain ⟨hc, hf⟩ := bcell hb
    go_wp2_with fail
    first | go_region_with (first | (go_at_call 148; refine (reckonIns _ _ _ _ _).mono ?_; rintro e w2 ⟨rfl, hb2⟩; obtain ⟨hc2, hf2⟩ := bcell (below_tr hb.drew hb2)) | (go_at_call 147; refine (reckonFits _ _ _ _ _ _ _).mono ?_; rintro e w3 ⟨rfl, hb3⟩)) | fail
    all_goals go_wp2_with fail
    all_goals go_ret
    all_goals exact ⟨rfl, by first | exact (b2.drew.trans (hb2.mono (by have := b2.size; first | exact this | (simp; omega)))).trans (hb3.mono (by have := b2.size; have := hb2.size; first | omega | (simp at *; omega)))⟩

set_option maxRecDepth 10000 in
set_option maxHeartbeats 4000000 in
theorem insOkI_2 (d a b r l h t p s : Int) (w : World) :
    Calls Try.prog 103 #[.agg #[.int .i64 2, .int .i64 d, .int .i64 a, .int .i64 b, .int .i64 r, .int .i64 l, .int .i64 h, .int .i64 t], .int .i64 p, .int .i64 s] w fun e w' => e = .returned (.bool (formB 2 d a b r l h t && ((inB d 0 3 && inB a 0 3 && inB b 0 3)))) ∧ Below w.heap.size w w' := by
  have b0 : Below w.heap.size w (w.alloc (.cells #[.int .i64 2, .int .i64 d, .int .i64 a, .int .i64 b, .int .i64 r, .int .i64 l, .int .i64 h, .int .i64 t] 72)) := (Below.refl _ _).alloc (Nat.le_refl _) _
  have m1 : ∀ w, (method 334 160 (.agg #[.int .i64 2, .int .i64 d, .int .i64 a, .int .i64 b]) "loop.example/outwork/impl.ins").run Try.prog w = .ok (148, .agg #[.int .i64 2, .int .i64 d, .int .i64 a, .int .i64 b]) w := fun w => by kernel_rfl
  have m2 : ∀ w, (method 334 160 (.agg #[.int .i64 2, .int .i64 d, .int .i64 a, .int .i64 b]) "loop.example/outwork/impl.fits").run Try.prog w = .ok (147, .agg #[.int .i64 2, .int .i64 d, .int .i64 a, .int .i64 b]) w := fun w => by kernel_rfl
  have hq : ∀ w : World, (binOp .eql 72 (.agg #[.int .i64 2, .int .i64 d, .int .i64 a, .int .i64 b, .int .i64 0, .int .i64 0, .int .i64 0, .int .i64 0]) (.agg #[.int .i64 2, .int .i64 d, .int .i64 a, .int .i64 b, .int .i64 r, .int .i64 l, .int .i64 h, .int .i64 t])).run Try.prog w = .ok (.bool (formB 2 d a b r l h t)) w := fun w => (eqlIns _ _ _ _ _ _ _ _ _ _ _ _ _ _ _ _ _).trans (by simp [formB, Bool.and_assoc, BEq.comm])
  cases hQ : formB 2 d a b r l h t
  · rw [hQ] at hq
    go_enter Try.func103, Try.ntmps103
    go_wp2_with fail
    refine (stepOfI_2 _ _ _ _ _ _ _ _).mono ?_
    rintro e w1 ⟨rfl, hb⟩
    have b2 := b0.trans (hb.mono (by simp))
    obtain ⟨hc, hf⟩ := bcell hb
    go_wp2_with fail
    first | go_region_with (first | (go_at_call 148; refine (reckonIns _ _ _ _ _).mono ?_; rintro e w2 ⟨rfl, hb2⟩; obtain ⟨hc2, hf2⟩ := bcell (below_tr hb.drew hb2)) ) | fail
    all_goals go_wp2_with fail
    all_goals go_ret
    all_goals exact ⟨rfl, by first | exact b2.drew.trans (hb2.mono (by have := b2.size; first | exact this | (simp; omega)))⟩
  · rw [hQ] at hq
    go_enter Try.func103, Try.ntmps103
    go_wp2_with fail
    refine (stepOfI_2 _ _ _ _ _ _ _ _).mono ?_
    rintro e w1 ⟨rfl, hb⟩
    have b2 := b0.trans (hb.mono (by simp))
    obtain ⟨hc, hf⟩ := bcell hb
    go_wp2_with fail
    first | go_region_with (first | (go_at_call 148; refine (reckonIns _ _ _ _ _).mono ?_; rintro e w2 ⟨rfl, hb2⟩; obtain ⟨hc2, hf2⟩ := bcell (below_tr hb.drew hb2)) | (go_at_call 147; refine (reckonFits _ _ _ _ _ _ _).mono ?_; rintro e w3 ⟨rfl, hb3⟩)) | fail
    all_goals go_wp2_with fail
    all_goals go_ret
    all_goals exact ⟨rfl, by first | exact (b2.drew.trans (hb2.mono (by have := b2.size; first | exact this | (simp; omega)))).trans (hb3.mono (by have := b2.size; have := hb2.size; first | omega | (simp at *; omega)))⟩

set_option maxRecDepth 10000 in
set_option maxHeartbeats 4000000 in
theorem insOkI_3 (d a b r l h t p s : Int) (w : World) :
    Calls Try.prog 103 #[.agg #[.int .i64 3, .int .i64 d, .int .i64 a, .int .i64 b, .int .i64 r, .int .i64 l, .int .i64 h, .int .i64 t], .int .i64 p, .int .i64 s] w fun e w' => e = .returned (.bool (formB 3 d a b r l h t && ((inB d 0 3 && inB a 0 3 && inB b 0 3)))) ∧ Below w.heap.size w w' := by
  have b0 : Below w.heap.size w (w.alloc (.cells #[.int .i64 3, .int .i64 d, .int .i64 a, .int .i64 b, .int .i64 r, .int .i64 l, .int .i64 h, .int .i64 t] 72)) := (Below.refl _ _).alloc (Nat.le_refl _) _
  have m1 : ∀ w, (method 334 160 (.agg #[.int .i64 3, .int .i64 d, .int .i64 a, .int .i64 b]) "loop.example/outwork/impl.ins").run Try.prog w = .ok (148, .agg #[.int .i64 3, .int .i64 d, .int .i64 a, .int .i64 b]) w := fun w => by kernel_rfl
  have m2 : ∀ w, (method 334 160 (.agg #[.int .i64 3, .int .i64 d, .int .i64 a, .int .i64 b]) "loop.example/outwork/impl.fits").run Try.prog w = .ok (147, .agg #[.int .i64 3, .int .i64 d, .int .i64 a, .int .i64 b]) w := fun w => by kernel_rfl
  have hq : ∀ w : World, (binOp .eql 72 (.agg #[.int .i64 3, .int .i64 d, .int .i64 a, .int .i64 b, .int .i64 0, .int .i64 0, .int .i64 0, .int .i64 0]) (.agg #[.int .i64 3, .int .i64 d, .int .i64 a, .int .i64 b, .int .i64 r, .int .i64 l, .int .i64 h, .int .i64 t])).run Try.prog w = .ok (.bool (formB 3 d a b r l h t)) w := fun w => (eqlIns _ _ _ _ _ _ _ _ _ _ _ _ _ _ _ _ _).trans (by simp [formB, Bool.and_assoc, BEq.comm])
  cases hQ : formB 3 d a b r l h t
  · rw [hQ] at hq
    go_enter Try.func103, Try.ntmps103
    go_wp2_with fail
    refine (stepOfI_3 _ _ _ _ _ _ _ _).mono ?_
    rintro e w1 ⟨rfl, hb⟩
    have b2 := b0.trans (hb.mono (by simp))
    obtain ⟨hc, hf⟩ := bcell hb
    go_wp2_with fail
    first | go_region_with (first | (go_at_call 148; refine (reckonIns _ _ _ _ _).mono ?_; rintro e w2 ⟨rfl, hb2⟩; obtain ⟨hc2, hf2⟩ := bcell (below_tr hb.drew hb2)) ) | fail
    all_goals go_wp2_with fail
    all_goals go_ret
    all_goals exact ⟨rfl, by first | exact b2.drew.trans (hb2.mono (by have := b2.size; first | exact this | (simp; omega)))⟩
  · rw [hQ] at hq
    go_enter Try.func103, Try.ntmps103
    go_wp2_with fail
    refine (stepOfI_3 _ _ _ _ _ _ _ _).mono ?_
    rintro e w1 ⟨rfl, hb⟩
    have b2 := b0.trans (hb.mono (by simp))
    obtain ⟨hc, hf⟩ := bcell hb
    go_wp2_with fail
    first | go_region_with (first | (go_at_call 148; refine (reckonIns _ _ _ _ _).mono ?_; rintro e w2 ⟨rfl, hb2⟩; obtain ⟨hc2, hf2⟩ := bcell (below_tr hb.drew hb2)) | (go_at_call 147; refine (reckonFits _ _ _ _ _ _ _).mono ?_; rintro e w3 ⟨rfl, hb3⟩)) | fail
    all_goals go_wp2_with fail
    all_goals go_ret
    all_goals exact ⟨rfl, by first | exact (b2.drew.trans (hb2.mono (by have := b2.size; first | exact this | (simp; omega)))).trans (hb3.mono (by have := b2.size; have := hb2.size; first | omega | (simp at *; omega)))⟩

set_option maxRecDepth 10000 in
set_option maxHeartbeats 4000000 in
theorem insOkI_4 (d a b r l h t p s : Int) (w : World) :
    Calls Try.prog 103 #[.agg #[.int .i64 4, .int .i64 d, .int .i64 a, .int .i64 b, .int .i64 r, .int .i64 l, .int .i64 h, .int .i64 t], .int .i64 p, .int .i64 s] w fun e w' => e = .returned (.bool (formB 4 d a b r l h t && ((inB d 0 3 && inB a 0 3 && inB b 0 3)))) ∧ Below w.heap.size w w' := by
  have b0 : Below w.heap.size w (w.alloc (.cells #[.int .i64 4, .int .i64 d, .int .i64 a, .int .i64 b, .int .i64 r, .int .i64 l, .int .i64 h, .int .i64 t] 72)) := (Below.refl _ _).alloc (Nat.le_refl _) _
  have m1 : ∀ w, (method 334 160 (.agg #[.int .i64 4, .int .i64 d, .int .i64 a, .int .i64 b]) "loop.example/outwork/impl.ins").run Try.prog w = .ok (148, .agg #[.int .i64 4, .int .i64 d, .int .i64 a, .int .i64 b]) w := fun w => by kernel_rfl
  have m2 : ∀ w, (method 334 160 (.agg #[.int .i64 4, .int .i64 d, .int .i64 a, .int .i64 b]) "loop.example/outwork/impl.fits").run Try.prog w = .ok (147, .agg #[.int .i64 4, .int .i64 d, .int .i64 a, .int .i64 b]) w := fun w => by kernel_rfl
  have hq : ∀ w : World, (binOp .eql 72 (.agg #[.int .i64 4, .int .i64 d, .int .i64 a, .int .i64 b, .int .i64 0, .int .i64 0, .int .i64 0, .int .i64 0]) (.agg #[.int .i64 4, .int .i64 d, .int .i64 a, .int .i64 b, .int .i64 r, .int .i64 l, .int .i64 h, .int .i64 t])).run Try.prog w = .ok (.bool (formB 4 d a b r l h t)) w := fun w => (eqlIns _ _ _ _ _ _ _ _ _ _ _ _ _ _ _ _ _).trans (by simp [formB, Bool.and_assoc, BEq.comm])
  cases hQ : formB 4 d a b r l h t
  · rw [hQ] at hq
    go_enter Try.func103, Try.ntmps103
    go_wp2_with fail
    refine (stepOfI_4 _ _ _ _ _ _ _ _).mono ?_
    rintro e w1 ⟨rfl, hb⟩
    have b2 := b0.trans (hb.mono (by simp))
    obtain ⟨hc, hf⟩ := bcell hb
    go_wp2_with fail
    first | go_region_with (first | (go_at_call 148; refine (reckonIns _ _ _ _ _).mono ?_; rintro e w2 ⟨rfl, hb2⟩; obtain ⟨hc2, hf2⟩ := bcell (below_tr hb.drew hb2)) ) | fail
    all_goals go_wp2_with fail
    all_goals go_ret
    all_goals exact ⟨rfl, by first | exact b2.drew.trans (hb2.mono (by have := b2.size; first | exact this | (simp; omega)))⟩
  · rw [hQ] at hq
    go_enter Try.func103, Try.ntmps103
    go_wp2_with fail
    refine (stepOfI_4 _ _ _ _ _ _ _ _).mono ?_
    rintro e w1 ⟨rfl, hb⟩
    have b2 := b0.trans (hb.mono (by simp))
    obtain ⟨hc, hf⟩ := bcell hb
    go_wp2_with fail
    first | go_region_with (first | (go_at_call 148; refine (reckonIns _ _ _ _ _).mono ?_; rintro e w2 ⟨rfl, hb2⟩; obtain ⟨hc2, hf2⟩ := bcell (below_tr hb.drew hb2)) | (go_at_call 147; refine (reckonFits _ _ _ _ _ _ _).mono ?_; rintro e w3 ⟨rfl, hb3⟩)) | fail
    all_goals go_wp2_with fail
    all_goals go_ret
    all_goals exact ⟨rfl, by first | exact (b2.drew.trans (hb2.mono (by have := b2.size; first | exact this | (simp; omega)))).trans (hb3.mono (by have := b2.size; have := hb2.size; first | omega | (simp at *; omega)))⟩
end Go.Proofs.Ytdpkbbbfnmneiaa
