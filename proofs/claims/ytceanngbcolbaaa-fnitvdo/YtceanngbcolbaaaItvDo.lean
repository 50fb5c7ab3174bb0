/- Reckoning with bounds: the model's (S). -/
import Derived.Test.YtceanngbcolbaaaItvDivs
import Derived.WalkKit
import Derived.ProofKit
import Derived.OpenShut
import Derived.Below
import Derived.Deep.RegionHeld3
import Derived.Deep.DeepCutAuto
namespace Go.Proofs.Ytceanngbcolbaaa
open Go.ChangeShapes Go.WideShapes Go.ChangeAt Go.RowKit

set_option maxRecDepth 10000 in
set_option maxHeartbeats 4000000 in
theorem itvDoS_na (op a b c d : Int) (w : World) (hab : itvOk a b = false) :
    Calls Try.prog 10 #[.int .i64 op, .agg #[.int .i64 a, .int .i64 b], .agg #[.int .i64 c, .int .i64 d]] w fun e w' => e = .returned (.tuple #[.agg #[.int .i64 (0), .int .i64 (0)], .bool false]) ∧ Below w.heap.size w w' := by
  go_enter Try.func10, Try.ntmps10
  go_wp2_with fail
  refine (itvOkS _ _ _).mono ?_
  rintro e w1 ⟨rfl, hb⟩
  have b1 := (show Below w.heap.size w (((w.alloc (.cells #[.int .i64 a, .int .i64 b] 24)).alloc (.cells #[.int .i64 c, .int .i64 d] 24)).alloc (.cells #[.int .i64 0, .int .i64 0] 24)) from by repeat (first | exact Below.refl _ _ | refine Below.alloc ?_ (by simp; try omega) _)).trans (hb.mono (by simp; omega))
  obtain ⟨hc, hf⟩ := bcell hb
  obtain ⟨e0, e1⟩ := own2 (W := w1) (B := w.heap.size + 1 + 1) (u := .int .i64 0) (v := .int .i64 0) (by rw [hc (w.heap.size + 1 + 1) 0 (by simp)]; simp [go_sem]) (by rw [hc (w.heap.size + 1 + 1) 1 (by simp)]; simp [go_sem])
  go_wp2_with fail
  refine bodyPost_ret (v := .tuple #[.agg #[.int .i64 (0), .int .i64 (0)], .bool false]) (by simp [results, Try.results10, go_sem, e0, e1]) rfl ⟨rfl, ?_⟩
  repeat (first | exact b2 | exact b1 | refine Below.drew ?_ | refine Below.alloc ?_ (by simp; try omega) _ | refine Below.setCell ?_ (by simp; try omega) _)

set_option maxRecDepth 10000 in
set_option maxHeartbeats 4000000 in
theorem itvDoS_nb (op a b c d : Int) (w : World) (hab : itvOk a b = true) (hcd : itvOk c d = false) :
    Calls Try.prog 10 #[.int .i64 op, .agg #[.int .i64 a, .int .i64 b], .agg #[.int .i64 c, .int .i64 d]] w fun e w' => e = .returned (.tuple #[.agg #[.int .i64 (0), .int .i64 (0)], .bool false]) ∧ Below w.heap.size w w' := by
  go_enter Try.func10, Try.ntmps10
  go_wp2_with fail
  refine (itvOkS _ _ _).mono ?_
  rintro e w1 ⟨rfl, hb⟩
  have b1 := (show Below w.heap.size w (((w.alloc (.cells #[.int .i64 a, .int .i64 b] 24)).alloc (.cells #[.int .i64 c, .int .i64 d] 24)).alloc (.cells #[.int .i64 0, .int .i64 0] 24)) from by repeat (first | exact Below.refl _ _ | refine Below.alloc ?_ (by simp; try omega) _)).trans (hb.mono (by simp; omega))
  obtain ⟨hc, hf⟩ := bcell hb
  obtain ⟨e0, e1⟩ := own2 (W := w1) (B := w.heap.size + 1 + 1) (u := .int .i64 0) (v := .int .i64 0) (by rw [hc (w.heap.size + 1 + 1) 0 (by simp)]; simp [go_sem]) (by rw [hc (w.heap.size + 1 + 1) 1 (by simp)]; simp [go_sem])
  go_wp2_with fail
  refine (itvOkS _ _ _).mono ?_
  rintro e w2 ⟨rfl, hb'⟩
  have b2 := b1.trans (hb'.mono b1.size)
  obtain ⟨hc2, hf2⟩ := bcell (below_tr hb hb')
  clear e0 e1 hc hf
  obtain ⟨e0, e1⟩ := own2 (W := w2) (B := w.heap.size + 1 + 1) (u := .int .i64 0) (v := .int .i64 0) (by rw [hc2 (w.heap.size + 1 + 1) 0 (by simp)]; simp [go_sem]) (by rw [hc2 (w.heap.size + 1 + 1) 1 (by simp)]; simp [go_sem])
  go_wp2_with fail
  refine bodyPost_ret (v := .tuple #[.agg #[.int .i64 (0), .int .i64 (0)], .bool false]) (by simp [results, Try.results10, go_sem, e0, e1]) rfl ⟨rfl, ?_⟩
  repeat (first | exact b2 | exact b1 | refine Below.drew ?_ | refine Below.alloc ?_ (by simp; try omega) _ | refine Below.setCell ?_ (by simp; try omega) _)

set_option maxRecDepth 10000 in
set_option maxHeartbeats 4000000 in
theorem itvDoS_op (op a b c d : Int) (w : World) (hab : itvOk a b = true) (hcd : itvOk c d = true) (h1 : op ≠ 1) (h2 : op ≠ 2) (h3 : op ≠ 3) (h4 : op ≠ 4) :
    Calls Try.prog 10 #[.int .i64 op, .agg #[.int .i64 a, .int .i64 b], .agg #[.int .i64 c, .int .i64 d]] w fun e w' => e = .returned (.tuple #[.agg #[.int .i64 (0), .int .i64 (0)], .bool false]) ∧ Below w.heap.size w w' := by
  have g1 : (op == 1) = false := by simpa using h1
  have g2 : (op == 2) = false := by simpa using h2
  have g3 : (op == 3) = false := by simpa using h3
  have g4 : (op == 4) = false := by simpa using h4
  go_enter Try.func10, Try.ntmps10
  go_wp2_with fail
  refine (itvOkS _ _ _).mono ?_
  rintro e w1 ⟨rfl, hb⟩
  have b1 := (show Below w.heap.size w (((w.alloc (.cells #[.int .i64 a, .int .i64 b] 24)).alloc (.cells #[.int .i64 c, .int .i64 d] 24)).alloc (.cells #[.int .i64 0, .int .i64 0] 24)) from by repeat (first | exact Below.refl _ _ | refine Below.alloc ?_ (by simp; try omega) _)).trans (hb.mono (by simp; omega))
  obtain ⟨hc, hf⟩ := bcell hb
  obtain ⟨e0, e1⟩ := own2 (W := w1) (B := w.heap.size + 1 + 1) (u := .int .i64 0) (v := .int .i64 0) (by rw [hc (w.heap.size + 1 + 1) 0 (by simp)]; simp [go_sem]) (by rw [hc (w.heap.size + 1 + 1) 1 (by simp)]; simp [go_sem])
  go_wp2_with fail
  refine (itvOkS _ _ _).mono ?_
  rintro e w2 ⟨rfl, hb'⟩
  have b2 := b1.trans (hb'.mono b1.size)
  obtain ⟨hc2, hf2⟩ := bcell (below_tr hb hb')
  clear e0 e1 hc hf
  obtain ⟨e0, e1⟩ := own2 (W := w2) (B := w.heap.size + 1 + 1) (u := .int .i64 0) (v := .int .i64 0) (by rw [hc2 (w.heap.size + 1 + 1) 0 (by simp)]; simp [go_sem]) (by rw [hc2 (w.heap.size + 1 + 1) 1 (by simp)]; simp [go_sem])
  go_wp2_with fail
  refine bodyPost_ret (v := .tuple #[.agg #[.int .i64 (0), .int .i64 (0)], .bool false]) (by simp [results, Try.results10, go_sem, e0, e1]) rfl ⟨rfl, ?_⟩
  repeat (first | exact b2 | exact b1 | refine Below.drew ?_ | refine Below.alloc ?_ (by simp; try omega) _ | refine Below.setCell ?_ (by simp; try omega) _)

set_option maxRecDepth 10000 in
set_option maxHeartbeats 4000000 in
theorem itvDoS_z (a b : Int) (w : World) (hab : itvOk a b = true) :
    Calls Try.prog 10 #[.int .i64 4, .agg #[.int .i64 a, .int .i64 b], .agg #[.int .i64 0, .int .i64 0]] w fun e w' => e = .returned (.tuple #[.agg #[.int .i64 (0), .int .i64 (0)], .bool false]) ∧ Below w.heap.size w w' := by
  have hcd : itvOk 0 0 = true := by decide
  go_enter Try.func10, Try.ntmps10
  go_wp2_with fail
  refine (itvOkS _ _ _).mono ?_
  rintro e w1 ⟨rfl, hb⟩
  have b1 := (show Below w.heap.size w (((w.alloc (.cells #[.int .i64 a, .int .i64 b] 24)).alloc (.cells #[.int .i64 0, .int .i64 0] 24)).alloc (.cells #[.int .i64 0, .int .i64 0] 24)) from by repeat (first | exact Below.refl _ _ | refine Below.alloc ?_ (by simp; try omega) _)).trans (hb.mono (by simp; omega))
  obtain ⟨hc, hf⟩ := bcell hb
  obtain ⟨e0, e1⟩ := own2 (W := w1) (B := w.heap.size + 1 + 1) (u := .int .i64 0) (v := .int .i64 0) (by rw [hc (w.heap.size + 1 + 1) 0 (by simp)]; simp [go_sem]) (by rw [hc (w.heap.size + 1 + 1) 1 (by simp)]; simp [go_sem])
  go_wp2_with fail
  refine (itvOkS _ _ _).mono ?_
  rintro e w2 ⟨rfl, hb'⟩
  have b2 := b1.trans (hb'.mono b1.size)
  obtain ⟨hc2, hf2⟩ := bcell (below_tr hb hb')
  clear e0 e1 hc hf
  obtain ⟨e0, e1⟩ := own2 (W := w2) (B := w.heap.size + 1 + 1) (u := .int .i64 0) (v := .int .i64 0) (by rw [hc2 (w.heap.size + 1 + 1) 0 (by simp)]; simp [go_sem]) (by rw [hc2 (w.heap.size + 1 + 1) 1 (by simp)]; simp [go_sem])
  go_wp2_with fail
  refine bodyPost_ret (v := .tuple #[.agg #[.int .i64 (0), .int .i64 (0)], .bool false]) (by simp [results, Try.results10, go_sem, e0, e1]) rfl ⟨rfl, ?_⟩
  repeat (first | exact b2 | exact b1 | refine Below.drew ?_ | refine Below.alloc ?_ (by simp; try omega) _ | refine Below.setCell ?_ (by simp; try omega) _)

theorem w64_mul {a b : Int} (h1 : -32768 ≤ a) (h2 : a ≤ 32767) (h3 : -32768 ≤ b) (h4 : b ≤ 32767) : wrap64 (a * b) = a * b := by
  have h : (a * b).natAbs ≤ 32768 * 32768 := by
    rw [Int.natAbs_mul]
    exact Nat.mul_le_mul (by omega) (by omega)
  exact w64 _ (by omega) (by omega)

set_option maxRecDepth 10000 in
set_option maxHeartbeats 4000000 in
theorem itvDoS_1 (a b c d : Int) (w : World) (hab : itvOk a b = true) (hcd : itvOk c d = true) :
    Calls Try.prog 10 #[.int .i64 1, .agg #[.int .i64 a, .int .i64 b], .agg #[.int .i64 c, .int .i64 d]] w fun e w' => e = .returned (.tuple #[.agg #[.int .i64 (foldLo (a + c) (b + d)), .int .i64 (foldHi (a + c) (b + d))], .bool true]) ∧ Below w.heap.size w w' := by
  obtain ⟨ha, hb0, hl1⟩ := itvOk_of hab
  obtain ⟨hc0, hd, hl2⟩ := itvOk_of hcd
  have a1 := ok_lo ha
  have a2 := ok_hi ha
  have a3 := ok_lo hb0
  have a4 := ok_hi hb0
  have a5 := ok_lo hc0
  have a6 := ok_hi hc0
  have a7 := ok_lo hd
  have a8 := ok_hi hd
  clear ha hb0 hc0 hd
  go_enter Try.func10, Try.ntmps10
  go_wp2_with fail
  refine (itvOkS _ _ _).mono ?_
  rintro e w1 ⟨rfl, hb⟩
  have b1 := (show Below w.heap.size w (((w.alloc (.cells #[.int .i64 a, .int .i64 b] 24)).alloc (.cells #[.int .i64 c, .int .i64 d] 24)).alloc (.cells #[.int .i64 0, .int .i64 0] 24)) from by repeat (first | exact Below.refl _ _ | refine Below.alloc ?_ (by simp; try omega) _)).trans (hb.mono (by simp; omega))
  obtain ⟨hc, hf⟩ := bcell hb
  obtain ⟨e0, e1⟩ := own2 (W := w1) (B := w.heap.size + 1 + 1) (u := .int .i64 0) (v := .int .i64 0) (by rw [hc (w.heap.size + 1 + 1) 0 (by simp)]; simp [go_sem]) (by rw [hc (w.heap.size + 1 + 1) 1 (by simp)]; simp [go_sem])
  go_wp2_with fail
  refine (itvOkS _ _ _).mono ?_
  rintro e w2 ⟨rfl, hb'⟩
  have b2 := b1.trans (hb'.mono b1.size)
  obtain ⟨hc2, hf2⟩ := bcell (below_tr hb hb')
  clear e0 e1 hc hf
  go_wp2_with fail
  refine (foldS _ _ _).mono ?_
  rintro e w3 ⟨rfl, h3⟩
  have b3 := b2.trans (h3.mono b2.size)
  obtain ⟨hc3, hf3⟩ := bcell (below_tr (below_tr hb hb') h3)
  obtain ⟨e0, e1⟩ := own2 (W := w3) (B := w.heap.size + 1 + 1) (u := .int .i64 0) (v := .int .i64 0) (by rw [hc3 (w.heap.size + 1 + 1) 0 (by simp)]; simp [go_sem]) (by rw [hc3 (w.heap.size + 1 + 1) 1 (by simp)]; simp [go_sem])
  clear hc2 hf2
  go_wp2_with fail
  refine bodyPost_ret (v := .tuple #[.agg #[.int .i64 (foldLo (a + c) (b + d)), .int .i64 (foldHi (a + c) (b + d))], .bool true]) (by simp [results, Try.results10, go_sem, e0, e1]) rfl ⟨rfl, ?_⟩
  repeat (first | exact b3 | refine Below.setCell ?_ (by simp; try omega) _)

set_option maxRecDepth 10000 in
set_option maxHeartbeats 4000000 in
theorem itvDoS_2 (a b c d : Int) (w : World) (hab : itvOk a b = true) (hcd : itvOk c d = true) :
    Calls Try.prog 10 #[.int .i64 2, .agg #[.int .i64 a, .int .i64 b], .agg #[.int .i64 c, .int .i64 d]] w fun e w' => e = .returned (.tuple #[.agg #[.int .i64 (foldLo (a - d) (b - c)), .int .i64 (foldHi (a - d) (b - c))], .bool true]) ∧ Below w.heap.size w w' := by
  obtain ⟨ha, hb0, hl1⟩ := itvOk_of hab
  obtain ⟨hc0, hd, hl2⟩ := itvOk_of hcd
  have a1 := ok_lo ha
  have a2 := ok_hi ha
  have a3 := ok_lo hb0
  have a4 := ok_hi hb0
  have a5 := ok_lo hc0
  have a6 := ok_hi hc0
  have a7 := ok_lo hd
  have a8 := ok_hi hd
  clear ha hb0 hc0 hd
  go_enter Try.func10, Try.ntmps10
  go_wp2_with fail
  refine (itvOkS _ _ _).mono ?_
  rintro e w1 ⟨rfl, hb⟩
  have b1 := (show Below w.heap.size w (((w.alloc (.cells #[.int .i64 a, .int .i64 b] 24)).alloc (.cells #[.int .i64 c, .int .i64 d] 24)).alloc (.cells #[.int .i64 0, .int .i64 0] 24)) from by repeat (first | exact Below.refl _ _ | refine Below.alloc ?_ (by simp; try omega) _)).trans (hb.mono (by simp; omega))
  obtain ⟨hc, hf⟩ := bcell hb
  obtain ⟨e0, e1⟩ := own2 (W := w1) (B := w.heap.size + 1 + 1) (u := .int .i64 0) (v := .int .i64 0) (by rw [hc (w.heap.size + 1 + 1) 0 (by simp)]; simp [go_sem]) (by rw [hc (w.heap.size + 1 + 1) 1 (by simp)]; simp [go_sem])
  go_wp2_with fail
  refine (itvOkS _ _ _).mono ?_
  rintro e w2 ⟨rfl, hb'⟩
  have b2 := b1.trans (hb'.mono b1.size)
  obtain ⟨hc2, hf2⟩ := bcell (below_tr hb hb')
  clear e0 e1 hc hf
  go_wp2_with fail
  refine (foldS _ _ _).mono ?_
  rintro e w3 ⟨rfl, h3⟩
  have b3 := b2.trans (h3.mono b2.size)
  obtain ⟨hc3, hf3⟩ := bcell (below_tr (below_tr hb hb') h3)
  obtain ⟨e0, e1⟩ := own2 (W := w3) (B := w.heap.size + 1 + 1) (u := .int .i64 0) (v := .int .i64 0) (by rw [hc3 (w.heap.size + 1 + 1) 0 (by simp)]; simp [go_sem]) (by rw [hc3 (w.heap.size + 1 + 1) 1 (by simp)]; simp [go_sem])
  clear hc2 hf2
  go_wp2_with fail
  refine bodyPost_ret (v := .tuple #[.agg #[.int .i64 (foldLo (a - d) (b - c)), .int .i64 (foldHi (a - d) (b - c))], .bool true]) (by simp [results, Try.results10, go_sem, e0, e1]) rfl ⟨rfl, ?_⟩
  repeat (first | exact b3 | refine Below.setCell ?_ (by simp; try omega) _)

set_option maxRecDepth 10000 in
set_option maxHeartbeats 4000000 in
theorem itvDoS_3 (a b c d : Int) (w : World) (hab : itvOk a b = true) (hcd : itvOk c d = true) :
    Calls Try.prog 10 #[.int .i64 3, .agg #[.int .i64 a, .int .i64 b], .agg #[.int .i64 c, .int .i64 d]] w fun e w' => e = .returned (.tuple #[.agg #[.int .i64 (foldLo (spanLo (a * c) (a * d) (b * c) (b * d)) (spanHi (a * c) (a * d) (b * c) (b * d))), .int .i64 (foldHi (spanLo (a * c) (a * d) (b * c) (b * d)) (spanHi (a * c) (a * d) (b * c) (b * d)))], .bool true]) ∧ Below w.heap.size w w' := by
  obtain ⟨ha, hb0, hl1⟩ := itvOk_of hab
  obtain ⟨hc0, hd, hl2⟩ := itvOk_of hcd
  have a1 := ok_lo ha
  have a2 := ok_hi ha
  have a3 := ok_lo hb0
  have a4 := ok_hi hb0
  have a5 := ok_lo hc0
  have a6 := ok_hi hc0
  have a7 := ok_lo hd
  have a8 := ok_hi hd
  clear ha hb0 hc0 hd
  go_enter Try.func10, Try.ntmps10
  go_wp2_with fail
  refine (itvOkS _ _ _).mono ?_
  rintro e w1 ⟨rfl, hb⟩
  have b1 := (show Below w.heap.size w (((w.alloc (.cells #[.int .i64 a, .int .i64 b] 24)).alloc (.cells #[.int .i64 c, .int .i64 d] 24)).alloc (.cells #[.int .i64 0, .int .i64 0] 24)) from by repeat (first | exact Below.refl _ _ | refine Below.alloc ?_ (by simp; try omega) _)).trans (hb.mono (by simp; omega))
  obtain ⟨hc, hf⟩ := bcell hb
  obtain ⟨e0, e1⟩ := own2 (W := w1) (B := w.heap.size + 1 + 1) (u := .int .i64 0) (v := .int .i64 0) (by rw [hc (w.heap.size + 1 + 1) 0 (by simp)]; simp [go_sem]) (by rw [hc (w.heap.size + 1 + 1) 1 (by simp)]; simp [go_sem])
  go_wp2_with fail
  refine (itvOkS _ _ _).mono ?_
  rintro e w2 ⟨rfl, hb'⟩
  have b2 := b1.trans (hb'.mono b1.size)
  obtain ⟨hc2, hf2⟩ := bcell (below_tr hb hb')
  clear e0 e1 hc hf
  have p1 : wrap64 (a * c) = a * c := w64_mul a1 a2 a5 a6
  have p2 : wrap64 (a * d) = a * d := w64_mul a1 a2 a7 a8
  have p3 : wrap64 (b * c) = b * c := w64_mul a3 a4 a5 a6
  have p4 : wrap64 (b * d) = b * d := w64_mul a3 a4 a7 a8
  go_wp2_with fail
  refine (spanS _ _ _ _ _).mono ?_
  rintro e w3 ⟨rfl, h3⟩
  have b3 := b2.trans (h3.mono b2.size)
  have h13 := below_tr (below_tr hb hb') h3
  obtain ⟨hc3, hf3⟩ := bcellA h13
  clear hc2 hf2
  go_wp2_with fail
  refine (foldS _ _ _).mono ?_
  rintro e w4 ⟨rfl, h4⟩
  have b4 := (b3.alloc b3.size _).trans (h4.mono (Nat.le_trans b3.size (by simp)))
  obtain ⟨hc4, hf4⟩ := bcell (below_tr (h13.alloc h13.size _) h4)
  obtain ⟨e0, e1⟩ := own2 (W := w4) (B := w.heap.size + 1 + 1) (u := .int .i64 0) (v := .int .i64 0) (by rw [hc4 (w.heap.size + 1 + 1) 0 (by simp)]; simp [go_sem]) (by rw [hc4 (w.heap.size + 1 + 1) 1 (by simp)]; simp [go_sem])
  clear hc3 hf3
  go_wp2_with fail
  refine bodyPost_ret (v := .tuple #[.agg #[.int .i64 (foldLo (spanLo (a * c) (a * d) (b * c) (b * d)) (spanHi (a * c) (a * d) (b * c) (b * d))), .int .i64 (foldHi (spanLo (a * c) (a * d) (b * c) (b * d)) (spanHi (a * c) (a * d) (b * c) (b * d)))], .bool true]) (by simp [results, Try.results10, go_sem, e0, e1]) rfl ⟨rfl, ?_⟩
  repeat (first | exact b4 | refine Below.setCell ?_ (by simp; try omega) _)

set_option maxRecDepth 10000 in
set_option maxHeartbeats 4000000 in
theorem itvDoS_4 (a b c d : Int) (w : World) (hab : itvOk a b = true) (hcd : itvOk c d = true) (h0 : ¬ c = 0) :
    Calls Try.prog 10 #[.int .i64 4, .agg #[.int .i64 a, .int .i64 b], .agg #[.int .i64 c, .int .i64 d]] w fun e w' => e = .returned (.tuple #[.agg #[.int .i64 (foldLo (divLo a b c d) (divHi a b c d)), .int .i64 (foldHi (divLo a b c d) (divHi a b c d))], .bool true]) ∧ Below w.heap.size w w' := by
  obtain ⟨ha, hb0, hl1⟩ := itvOk_of hab
  obtain ⟨hc0, hd, hl2⟩ := itvOk_of hcd
  have a1 := ok_lo ha
  have a2 := ok_hi ha
  have a3 := ok_lo hb0
  have a4 := ok_hi hb0
  have a5 := ok_lo hc0
  have a6 := ok_hi hc0
  have a7 := ok_lo hd
  have a8 := ok_hi hd
  clear ha hb0 hc0 hd
  have g0 : (c == 0) = false := by simpa using h0
  go_enter Try.func10, Try.ntmps10
  go_wp2_with fail
  refine (itvOkS _ _ _).mono ?_
  rintro e w1 ⟨rfl, hb⟩
  have b1 := (show Below w.heap.size w (((w.alloc (.cells #[.int .i64 a, .int .i64 b] 24)).alloc (.cells #[.int .i64 c, .int .i64 d] 24)).alloc (.cells #[.int .i64 0, .int .i64 0] 24)) from by repeat (first | exact Below.refl _ _ | refine Below.alloc ?_ (by simp; try omega) _)).trans (hb.mono (by simp; omega))
  obtain ⟨hc, hf⟩ := bcell hb
  obtain ⟨e0, e1⟩ := own2 (W := w1) (B := w.heap.size + 1 + 1) (u := .int .i64 0) (v := .int .i64 0) (by rw [hc (w.heap.size + 1 + 1) 0 (by simp)]; simp [go_sem]) (by rw [hc (w.heap.size + 1 + 1) 1 (by simp)]; simp [go_sem])
  go_wp2_with fail
  refine (itvOkS _ _ _).mono ?_
  rintro e w2 ⟨rfl, hb'⟩
  have b2 := b1.trans (hb'.mono b1.size)
  obtain ⟨hc2, hf2⟩ := bcell (below_tr hb hb')
  clear e0 e1 hc hf
  go_wp2_with fail
  refine (divS _ _ _ _ _ hab hcd (by omega)).mono ?_
  rintro e w3 ⟨rfl, h3⟩
  have b3 := b2.trans (h3.mono b2.size)
  have h13 := below_tr (below_tr hb hb') h3
  obtain ⟨hc3, hf3⟩ := bcellA h13
  clear hc2 hf2
  go_wp2_with fail
  refine (foldS _ _ _).mono ?_
  rintro e w4 ⟨rfl, h4⟩
  have b4 := (b3.alloc b3.size _).trans (h4.mono (Nat.le_trans b3.size (by simp)))
  obtain ⟨hc4, hf4⟩ := bcell (below_tr (h13.alloc h13.size _) h4)
  obtain ⟨e0, e1⟩ := own2 (W := w4) (B := w.heap.size + 1 + 1) (u := .int .i64 0) (v := .int .i64 0) (by rw [hc4 (w.heap.size + 1 + 1) 0 (by simp)]; simp [go_sem]) (by rw [hc4 (w.heap.size + 1 + 1) 1 (by simp)]; simp [go_sem])
  clear hc3 hf3
  go_wp2_with fail
  refine bodyPost_ret (v := .tuple #[.agg #[.int .i64 (foldLo (divLo a b c d) (divHi a b c d)), .int .i64 (foldHi (divLo a b c d) (divHi a b c d))], .bool true]) (by simp [results, Try.results10, go_sem, e0, e1]) rfl ⟨rfl, ?_⟩
  repeat (first | exact b4 | refine Below.setCell ?_ (by simp; try omega) _)

set_option maxRecDepth 10000 in
set_option maxHeartbeats 4000000 in
theorem itvDoS_40 (a b d : Int) (w : World) (hab : itvOk a b = true) (hcd : itvOk 0 d = true) (h0 : ¬ d = 0) :
    Calls Try.prog 10 #[.int .i64 4, .agg #[.int .i64 a, .int .i64 b], .agg #[.int .i64 0, .int .i64 d]] w fun e w' => e = .returned (.tuple #[.agg #[.int .i64 (foldLo (divLo a b 0 d) (divHi a b 0 d)), .int .i64 (foldHi (divLo a b 0 d) (divHi a b 0 d))], .bool true]) ∧ Below w.heap.size w w' := by
  obtain ⟨ha, hb0, hl1⟩ := itvOk_of hab
  obtain ⟨hc0, hd, hl2⟩ := itvOk_of hcd
  have a1 := ok_lo ha
  have a2 := ok_hi ha
  have a3 := ok_lo hb0
  have a4 := ok_hi hb0
  have a7 := ok_lo hd
  have a8 := ok_hi hd
  clear ha hb0 hc0 hd
  have g0 : (d == 0) = false := by simpa using h0
  go_enter Try.func10, Try.ntmps10
  go_wp2_with fail
  refine (itvOkS _ _ _).mono ?_
  rintro e w1 ⟨rfl, hb⟩
  have b1 := (show Below w.heap.size w (((w.alloc (.cells #[.int .i64 a, .int .i64 b] 24)).alloc (.cells #[.int .i64 0, .int .i64 d] 24)).alloc (.cells #[.int .i64 0, .int .i64 0] 24)) from by repeat (first | exact Below.refl _ _ | refine Below.alloc ?_ (by simp; try omega) _)).trans (hb.mono (by simp; omega))
  obtain ⟨hc, hf⟩ := bcell hb
  obtain ⟨e0, e1⟩ := own2 (W := w1) (B := w.heap.size + 1 + 1) (u := .int .i64 0) (v := .int .i64 0) (by rw [hc (w.heap.size + 1 + 1) 0 (by simp)]; simp [go_sem]) (by rw [hc (w.heap.size + 1 + 1) 1 (by simp)]; simp [go_sem])
  go_wp2_with fail
  refine (itvOkS _ _ _).mono ?_
  rintro e w2 ⟨rfl, hb'⟩
  have b2 := b1.trans (hb'.mono b1.size)
  obtain ⟨hc2, hf2⟩ := bcell (below_tr hb hb')
  clear e0 e1 hc hf
  go_wp2_with fail
  refine (divS _ _ _ _ _ hab hcd (by omega)).mono ?_
  rintro e w3 ⟨rfl, h3⟩
  have b3 := b2.trans (h3.mono b2.size)
  have h13 := below_tr (below_tr hb hb') h3
  obtain ⟨hc3, hf3⟩ := bcellA h13
  clear hc2 hf2
  go_wp2_with fail
  refine (foldS _ _ _).mono ?_
  rintro e w4 ⟨rfl, h4⟩
  have b4 := (b3.alloc b3.size _).trans (h4.mono (Nat.le_trans b3.size (by simp)))
  obtain ⟨hc4, hf4⟩ := bcell (below_tr (h13.alloc h13.size _) h4)
  obtain ⟨e0, e1⟩ := own2 (W := w4) (B := w.heap.size + 1 + 1) (u := .int .i64 0) (v := .int .i64 0) (by rw [hc4 (w.heap.size + 1 + 1) 0 (by simp)]; simp [go_sem]) (by rw [hc4 (w.heap.size + 1 + 1) 1 (by simp)]; simp [go_sem])
  clear hc3 hf3
  go_wp2_with fail
  refine bodyPost_ret (v := .tuple #[.agg #[.int .i64 (foldLo (divLo a b 0 d) (divHi a b 0 d)), .int .i64 (foldHi (divLo a b 0 d) (divHi a b 0 d))], .bool true]) (by simp [results, Try.results10, go_sem, e0, e1]) rfl ⟨rfl, ?_⟩
  repeat (first | exact b4 | refine Below.setCell ?_ (by simp; try omega) _)

theorem itvDoS (op a b c d : Int) (w : World) :
    Calls Try.prog 10 #[.int .i64 op, .agg #[.int .i64 a, .int .i64 b], .agg #[.int .i64 c, .int .i64 d]] w fun e w' => e = .returned (.tuple #[.agg #[.int .i64 (itvDoLo op a b c d), .int .i64 (itvDoHi op a b c d)], .bool (itvDoOk op a b c d)]) ∧ Below w.heap.size w w' := by
  have no : itvDoOk op a b c d = false → itvDoLo op a b c d = 0 ∧ itvDoHi op a b c d = 0 := fun h => by simp [itvDoLo, itvDoHi, h]
  cases hab : itvOk a b
  · have k : itvDoOk op a b c d = false := by simp [itvDoOk, two, hab]
    rw [k, (no k).1, (no k).2]; exact itvDoS_na op a b c d w hab
  cases hcd : itvOk c d
  · have k : itvDoOk op a b c d = false := by simp [itvDoOk, two, hcd]
    rw [k, (no k).1, (no k).2]; exact itvDoS_nb op a b c d w hab hcd
  by_cases h1 : op = 1
  · subst h1
    have k : itvDoOk 1 a b c d = true := by simp [itvDoOk, two, hab, hcd]
    have x : itvDoLo 1 a b c d = foldLo (a + c) (b + d) := by simp [itvDoLo, k]
    have y : itvDoHi 1 a b c d = foldHi (a + c) (b + d) := by simp [itvDoHi, k]
    rw [k, x, y]; exact itvDoS_1 a b c d w hab hcd
  by_cases h2 : op = 2
  · subst h2
    have k : itvDoOk 2 a b c d = true := by simp [itvDoOk, two, hab, hcd]
    have x : itvDoLo 2 a b c d = foldLo (a - d) (b - c) := by simp [itvDoLo, k]
    have y : itvDoHi 2 a b c d = foldHi (a - d) (b - c) := by simp [itvDoHi, k]
    rw [k, x, y]; exact itvDoS_2 a b c d w hab hcd
  by_cases h3 : op = 3
  · subst h3
    have k : itvDoOk 3 a b c d = true := by simp [itvDoOk, two, hab, hcd]
    have x : itvDoLo 3 a b c d = foldLo (spanLo (a * c) (a * d) (b * c) (b * d)) (spanHi (a * c) (a * d) (b * c) (b * d)) := by simp [itvDoLo, k]
    have y : itvDoHi 3 a b c d = foldHi (spanLo (a * c) (a * d) (b * c) (b * d)) (spanHi (a * c) (a * d) (b * c) (b * d)) := by simp [itvDoHi, k]
    rw [k, x, y]; exact itvDoS_3 a b c d w hab hcd
  by_cases h4 : op = 4
  · subst h4
    by_cases h5 : c = 0
    · by_cases h6 : d = 0
      · subst h5; subst h6
        have k : itvDoOk 4 a b 0 0 = false := by simp [itvDoOk]
        rw [k, (no k).1, (no k).2]; exact itvDoS_z a b w hab
      · subst h5
        have k : itvDoOk 4 a b 0 d = true := by simp [itvDoOk, two, hab, hcd, h6]
        have x : itvDoLo 4 a b 0 d = foldLo (divLo a b 0 d) (divHi a b 0 d) := by simp [itvDoLo, k]
        have y : itvDoHi 4 a b 0 d = foldHi (divLo a b 0 d) (divHi a b 0 d) := by simp [itvDoHi, k]
        rw [k, x, y]; exact itvDoS_40 a b d w hab hcd h6
    · have k : itvDoOk 4 a b c d = true := by simp [itvDoOk, two, hab, hcd, h5]
      have x : itvDoLo 4 a b c d = foldLo (divLo a b c d) (divHi a b c d) := by simp [itvDoLo, k]
      have y : itvDoHi 4 a b c d = foldHi (divLo a b c d) (divHi a b c d) := by simp [itvDoHi, k]
      rw [k, x, y]; exact itvDoS_4 a b c d w hab hcd h5
  · have k : itvDoOk op a b c d = false := by simp [itvDoOk, h1, h2, h3, h4]
    rw [k, (no k).1, (no k).2]; exact itvDoS_op op a b c d w hab hcd h1 h2 h3 h4
end Go.Proofs.Ytceanngbcolbaaa
