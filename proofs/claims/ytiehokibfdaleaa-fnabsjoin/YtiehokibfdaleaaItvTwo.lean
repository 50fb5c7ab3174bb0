/- Join and meet of bounds: the model's (S). -/
import Derived.Test.YtiehokibfdaleaaItv
import Derived.WalkKit
import Derived.ProofKit
import Derived.OpenShut
import Derived.Below
namespace Go.Proofs.Ytiehokibfdaleaa
open Go.ChangeShapes Go.WideShapes Go.ChangeAt Go.RowKit

set_option maxHeartbeats 1000000 in
theorem joinS (a b c d : Int) (w : World) :
    Calls Try.prog 27 #[.agg #[.int .i64 a, .int .i64 b], .agg #[.int .i64 c, .int .i64 d]] w fun e w' => e = .returned (.agg #[.int .i64 (joinLo a b c d), .int .i64 (joinHi a b c d)]) ∧ Below w.heap.size w w' := by
  go_enter Try.func27, Try.ntmps27
  go_wp2_with fail
  refine (itvOkS _ _ _).mono ?_
  rintro e w1 ⟨rfl, hb⟩
  have b1 := (show Below w.heap.size w (((w.alloc (.cells #[.int .i64 a, .int .i64 b] 25)).alloc (.cells #[.int .i64 c, .int .i64 d] 25)).alloc (.cells #[.int .i64 0, .int .i64 0] 25)) from by repeat (first | exact Below.refl _ _ | refine Below.alloc ?_ (by simp; try omega) _)).trans (hb.mono (by simp; omega))
  obtain ⟨hc, hf⟩ := bcell hb
  obtain ⟨e0, e1⟩ := own2 (W := w1) (B := w.heap.size + 1 + 1) (u := .int .i64 0) (v := .int .i64 0) (by rw [hc (w.heap.size + 1 + 1) 0 (by simp)]; simp [go_sem]) (by rw [hc (w.heap.size + 1 + 1) 1 (by simp)]; simp [go_sem])
  have hs := hb.size
  cases hab : itvOk a b
  · go_wp2_with fail
    refine bodyPost_ret (v := .agg #[.int .i64 (joinLo a b c d), .int .i64 (joinHi a b c d)]) (by simp [results, Try.results27, go_sem, e0, e1, joinLo, joinHi, two, hab]; try omega) rfl ⟨rfl, ?_⟩
    repeat (first | exact b2 | exact b1 | refine Below.drew ?_ | refine Below.alloc ?_ (by simp; try omega) _ | refine Below.setCell ?_ (by simp; try omega) _)
  go_wp2_with fail
  refine (itvOkS _ _ _).mono ?_
  rintro e w2 ⟨rfl, hb'⟩
  have b2 := b1.trans (hb'.mono b1.size)
  obtain ⟨hc2, hf2⟩ := bcell (below_tr hb hb')
  obtain ⟨e0, e1⟩ := own2 (W := w2) (B := w.heap.size + 1 + 1) (u := .int .i64 0) (v := .int .i64 0) (by rw [hc2 (w.heap.size + 1 + 1) 0 (by simp)]; simp [go_sem]) (by rw [hc2 (w.heap.size + 1 + 1) 1 (by simp)]; simp [go_sem])
  have hs2 := hb'.size
  clear hc hf
  cases hcd : itvOk c d
  · go_wp2_with fail
    refine bodyPost_ret (v := .agg #[.int .i64 (joinLo a b c d), .int .i64 (joinHi a b c d)]) (by simp [results, Try.results27, go_sem, e0, e1, joinLo, joinHi, two, hcd]; try omega) rfl ⟨rfl, ?_⟩
    repeat (first | exact b2 | exact b1 | refine Below.drew ?_ | refine Below.alloc ?_ (by simp; try omega) _ | refine Below.setCell ?_ (by simp; try omega) _)
  go_wp2_with fail
  all_goals (refine bodyPost_ret (v := .agg #[.int .i64 (joinLo a b c d), .int .i64 (joinHi a b c d)]) (by simp [results, Try.results27, go_sem, e0, e1, joinLo, joinHi, two, hab, hcd]; try omega) rfl ⟨rfl, ?_⟩)
  all_goals (repeat (first | exact b2 | exact b1 | refine Below.drew ?_ | refine Below.alloc ?_ (by simp; try omega) _ | refine Below.setCell ?_ (by simp; try omega) _))

end Go.Proofs.Ytiehokibfdaleaa
