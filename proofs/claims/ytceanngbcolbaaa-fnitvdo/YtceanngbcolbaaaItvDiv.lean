/- Quotients of bounds: the model's (S). -/
import Derived.Test.YtceanngbcolbaaaItvSpan
import Derived.WalkKit
import Derived.ProofKit
import Derived.OpenShut
import Derived.Below
import Derived.Deep.RegionHeld3
import Derived.Deep.DeepCutAuto
namespace Go.Proofs.Ytceanngbcolbaaa
open Go.ChangeShapes Go.WideShapes Go.ChangeAt Go.RowKit

set_option maxHeartbeats 2000000 in
theorem divS_1 (a b c d : Int) (w : World) (ha : okB a = true) (hb : okB b = true) (h1 : 1 ≤ c) (h2 : 1 ≤ d) :
    Calls Try.prog 40 #[.agg #[.int .i64 a, .int .i64 b], .agg #[.int .i64 c, .int .i64 d]] w fun e w' => e = .returned (.agg #[.int .i64 (spanLo (a.tdiv c) (a.tdiv d) (b.tdiv c) (b.tdiv d)), .int .i64 (spanHi (a.tdiv c) (a.tdiv d) (b.tdiv c) (b.tdiv d))]) ∧ Below w.heap.size w w' := by
  have g0 : (c == 0) = false := by simp; omega
  have n0 : ¬ c = 0 := by omega
  have q0 : IntKind.i64.wrap (a.tdiv c) = a.tdiv c := i64_div ha c
  have r0 : IntKind.i64.wrap (b.tdiv c) = b.tdiv c := i64_div hb c
  have g1 : (d == 0) = false := by simp; omega
  have n1 : ¬ d = 0 := by omega
  have q1 : IntKind.i64.wrap (a.tdiv d) = a.tdiv d := i64_div ha d
  have r1 : IntKind.i64.wrap (b.tdiv d) = b.tdiv d := i64_div hb d
  go_enter Try.func40, Try.ntmps40
  go_wp2_with fail
  go_region_held3 (fun W => W.cell? ⟨w.heap.size, 0, none⟩ = some (.int .i64 a) ∧ W.cell? ⟨w.heap.size, 1, none⟩ = some (.int .i64 b) ∧ W.cell? ⟨w.heap.size + 1, 0, none⟩ = some (.int .i64 c) ∧ W.cell? ⟨w.heap.size + 1, 1, none⟩ = some (.int .i64 d)) (first | exact C4.next (by assumption) (by simp; try omega) hB | exact C4.next (by assumption) (by first | omega | (simp; try omega)) ((Below.refl _ _).alloc (Nat.le_refl _) _) | exact C4.realloc (by omega) (by assumption) | exact C4.set (by dsimp only; omega) (C4.set (by dsimp only; omega) (by assumption)) | go_keep) (first | (go_at_call 39; refine (spanS _ _ _ _ _).mono ?_; rintro e w' ⟨rfl, hB⟩; obtain ⟨hc, hf⟩ := bcell hB; have hsz : w.heap.size + 1 + 1 < w'.heap.size := (by have := hB.size; simp at this; omega)))
  have b1 := (show Below w.heap.size w ((((w.alloc (.cells #[.int .i64 a, .int .i64 b] 24)).alloc (.cells #[.int .i64 c, .int .i64 d] 24))).alloc (.cells #[.int .i64 0, .int .i64 0] 24)).drew from by repeat (first | exact Below.refl _ _ | refine Below.drew ?_ | refine Below.alloc ?_ (by simp; try omega) _)).trans (hB.mono (by simp; omega))
  obtain ⟨e0, e1⟩ := own2 (W := w') (B := w.heap.size + 1 + 1) (u := .int .i64 0) (v := .int .i64 0) (by rw [hc (w.heap.size + 1 + 1) 0 (by simp)]; simp [go_sem]) (by rw [hc (w.heap.size + 1 + 1) 1 (by simp)]; simp [go_sem])
  go_wp2_with fail
  refine bodyPost_ret (v := .agg #[.int .i64 (spanLo (a.tdiv c) (a.tdiv d) (b.tdiv c) (b.tdiv d)), .int .i64 (spanHi (a.tdiv c) (a.tdiv d) (b.tdiv c) (b.tdiv d))]) (by simp [results, Try.results40, go_sem, e0, e1]) rfl ⟨rfl, ?_⟩
  repeat (first | exact b1 | refine Below.setCell ?_ (by simp; try omega) _)

set_option maxHeartbeats 2000000 in
theorem divS_0 (a b d : Int) (w : World) (ha : okB a = true) (hb : okB b = true) (h2 : 1 ≤ d) :
    Calls Try.prog 40 #[.agg #[.int .i64 a, .int .i64 b], .agg #[.int .i64 0, .int .i64 d]] w fun e w' => e = .returned (.agg #[.int .i64 (spanLo a (a.tdiv d) b (b.tdiv d)), .int .i64 (spanHi a (a.tdiv d) b (b.tdiv d))]) ∧ Below w.heap.size w w' := by
  have g0 : (d == 0) = false := by simp; omega
  have n0 : ¬ d = 0 := by omega
  have q0 : IntKind.i64.wrap (a.tdiv d) = a.tdiv d := i64_div ha d
  have r0 : IntKind.i64.wrap (b.tdiv d) = b.tdiv d := i64_div hb d
  have u0 : IntKind.i64.wrap a = a := i64_of (by have := ok_lo ha; omega) (by have := ok_hi ha; omega)
  have u1 : IntKind.i64.wrap b = b := i64_of (by have := ok_lo hb; omega) (by have := ok_hi hb; omega)
  go_enter Try.func40, Try.ntmps40
  go_wp2_with fail
  go_region_held3 (fun W => W.cell? ⟨w.heap.size, 0, none⟩ = some (.int .i64 a) ∧ W.cell? ⟨w.heap.size, 1, none⟩ = some (.int .i64 b) ∧ W.cell? ⟨w.heap.size + 1, 0, none⟩ = some (.int .i64 0) ∧ W.cell? ⟨w.heap.size + 1, 1, none⟩ = some (.int .i64 d)) (first | exact C4.next (by assumption) (by simp; try omega) hB | exact C4.next (by assumption) (by first | omega | (simp; try omega)) ((Below.refl _ _).alloc (Nat.le_refl _) _) | exact C4.realloc (by omega) (by assumption) | exact C4.set (by dsimp only; omega) (C4.set (by dsimp only; omega) (by assumption)) | go_keep) (first | (go_at_call 39; refine (spanS _ _ _ _ _).mono ?_; rintro e w' ⟨rfl, hB⟩; obtain ⟨hc, hf⟩ := bcell hB; have hsz : w.heap.size + 1 + 1 < w'.heap.size := (by have := hB.size; simp at this; omega)))
  have b1 := (show Below w.heap.size w ((((w.alloc (.cells #[.int .i64 a, .int .i64 b] 24)).alloc (.cells #[.int .i64 0, .int .i64 d] 24))).alloc (.cells #[.int .i64 0, .int .i64 0] 24)).drew from by repeat (first | exact Below.refl _ _ | refine Below.drew ?_ | refine Below.alloc ?_ (by simp; try omega) _)).trans (hB.mono (by simp; omega))
  obtain ⟨e0, e1⟩ := own2 (W := w') (B := w.heap.size + 1 + 1) (u := .int .i64 0) (v := .int .i64 0) (by rw [hc (w.heap.size + 1 + 1) 0 (by simp)]; simp [go_sem]) (by rw [hc (w.heap.size + 1 + 1) 1 (by simp)]; simp [go_sem])
  go_wp2_with fail
  refine bodyPost_ret (v := .agg #[.int .i64 (spanLo a (a.tdiv d) b (b.tdiv d)), .int .i64 (spanHi a (a.tdiv d) b (b.tdiv d))]) (by simp [results, Try.results40, go_sem, e0, e1]) rfl ⟨rfl, ?_⟩
  repeat (first | exact b1 | refine Below.setCell ?_ (by simp; try omega) _)

set_option maxRecDepth 10000 in
set_option maxHeartbeats 4000000 in
theorem divS_n (a b c d : Int) (w : World) (ha : okB a = true) (hb : okB b = true) (h1 : c ≤ -1) (h2 : d ≤ -1) :
    Calls Try.prog 40 #[.agg #[.int .i64 a, .int .i64 b], .agg #[.int .i64 c, .int .i64 d]] w fun e w' => e = .returned (.agg #[.int .i64 (spanLo (a.tdiv c) (a.tdiv d) (b.tdiv c) (b.tdiv d)), .int .i64 (spanHi (a.tdiv c) (a.tdiv d) (b.tdiv c) (b.tdiv d))]) ∧ Below w.heap.size w w' := by
  have g0 : (c == 0) = false := by simp; omega
  have n0 : ¬ c = 0 := by omega
  have q0 : IntKind.i64.wrap (a.tdiv c) = a.tdiv c := i64_div ha c
  have r0 : IntKind.i64.wrap (b.tdiv c) = b.tdiv c := i64_div hb c
  have g1 : (d == 0) = false := by simp; omega
  have n1 : ¬ d = 0 := by omega
  have q1 : IntKind.i64.wrap (a.tdiv d) = a.tdiv d := i64_div ha d
  have r1 : IntKind.i64.wrap (b.tdiv d) = b.tdiv d := i64_div hb d
  go_enter Try.func40, Try.ntmps40
  go_wp2_with fail
  generalize hw0 : (((w.alloc (Obj.cells #[Value.int IntKind.i64 a, Value.int IntKind.i64 b] 24)).alloc (Obj.cells #[Value.int IntKind.i64 c, Value.int IntKind.i64 d] 24)).alloc (Obj.cells #[Value.int IntKind.i64 0, Value.int IntKind.i64 0] 24)) = w0
  obtain ⟨L, hL⟩ : ∃ L, L = [(w.heap.size + 1 + 1, [Value.int .i64 0, Value.int .i64 0]), (w.heap.size + 1, [Value.int .i64 c, Value.int .i64 d]), (w.heap.size, [Value.int .i64 a, Value.int .i64 b])] := ⟨_, rfl⟩
  have h0 : HeldL w L w0 := by rw [← hw0, hL]; exact held3 _ _ _ _ _ _ _ _
  have mm : (w.heap.size, [Value.int .i64 a, .int .i64 b]) ∈ L ∧ (w.heap.size + 1, [Value.int .i64 c, .int .i64 d]) ∈ L := by rw [hL]; simp
  have m3 : (w.heap.size + 1 + 1, [Value.int .i64 0, .int .i64 0]) ∈ L := by rw [hL]; simp
  obtain ⟨T, hT⟩ : ∃ T, T = w.heap.size + 1 + 1 := ⟨_, rfl⟩
  have wT : w.heap.size < T := by omega
  have mT : (T, [Value.int .i64 0, .int .i64 0]) ∈ L := by rw [hT]; exact m3
  have lT : ∀ e ∈ L, e.1 ≤ T := by
    rw [hL, hT]; intro e he
    simp at he
    rcases he with rfl | rfl | rfl <;> simp only [] <;> omega
  have qT : ∀ W : World, T < W.heap.size → ∀ e ∈ L, e.1 < W.heap.size := fun W h e he => Nat.lt_of_le_of_lt (lT e he) h
  have nT : ∀ k : Nat, T < k → ∀ e ∈ L, e.1 ≠ k := fun k h e he => by have := lT e he; omega
  have zT : T < w0.heap.size := h0.size mT
  clear hw0 hL hT
  go_cut [7] (fun p0 W => ∃ g0, p0 = .pointer (some ⟨g0, 0, none⟩) ∧ T < g0 ∧ HeldL w ((g0, [.int .i64 (spanLo (a.tdiv c) (a.tdiv d) (b.tdiv c) (b.tdiv d)), .int .i64 (spanHi (a.tdiv c) (a.tdiv d) (b.tdiv c) (b.tdiv d))]) :: L) W)
  case first =>
    go_region_held3 (fun W => W.cell? ⟨w.heap.size, 0, none⟩ = some (.int .i64 a) ∧ W.cell? ⟨w.heap.size, 1, none⟩ = some (.int .i64 b) ∧ W.cell? ⟨w.heap.size + 1, 0, none⟩ = some (.int .i64 c) ∧ W.cell? ⟨w.heap.size + 1, 1, none⟩ = some (.int .i64 d) ∧ HeldL w L W) (first | exact K4.of mm h0.drew | exact K4.of mm hH | exact K4.of mm (HeldL.alloc _ (K4.held (by assumption))) | exact K4.of mm (HeldL.realloc (by omega) (qT _ (by assumption)) (K4.held (by assumption))) | exact K4.of mm (HeldL.setCell _ _ (by dsimp only; omega) (nT _ (by dsimp only; omega)) (HeldL.setCell _ _ (by dsimp only; omega) (nT _ (by dsimp only; omega)) (K4.held (by assumption))))) (first | (go_at_call 39; refine (spanS _ _ _ _ _).mono ?_; rintro e w' ⟨rfl, hB⟩; have hH := HeldL.next hB (K4.held (by assumption)); have hzz := hH.size mT; obtain ⟨hc, hf⟩ := bcell hB))
    all_goals (go_wp2_with fail)
    all_goals go_meet
    all_goals first | exact ⟨_, rfl, by omega, HeldL.new hH⟩ | exact ⟨_, rfl, by omega, HeldL.old (by assumption) (by omega) (qT _ (by omega)) hH⟩ | exact ⟨_, rfl, by omega, HeldL.oldDrew (by assumption) (by omega) (qT _ (by omega)) hH⟩
  case rest =>
    obtain ⟨g, rfl, hg, h1⟩ := hcut
    have mg : (g, [Value.int .i64 (spanLo (a.tdiv c) (a.tdiv d) (b.tdiv c) (b.tdiv d)), .int .i64 (spanHi (a.tdiv c) (a.tdiv d) (b.tdiv c) (b.tdiv d))]) ∈ (g, [Value.int .i64 (spanLo (a.tdiv c) (a.tdiv d) (b.tdiv c) (b.tdiv d)), .int .i64 (spanHi (a.tdiv c) (a.tdiv d) (b.tdiv c) (b.tdiv d))]) :: L := List.mem_cons_self
    have x0 := h1.cell mg (i := 0) rfl
    have x1 := h1.cell mg (i := 1) rfl
    have d0 := h1.cell (List.mem_cons_of_mem _ mm.2) (i := 0) rfl
    have d1 := h1.cell (List.mem_cons_of_mem _ mm.2) (i := 1) rfl
    have k0 := h1.cell (List.mem_cons_of_mem _ m3) (i := 0) rfl
    have k1 := h1.cell (List.mem_cons_of_mem _ m3) (i := 1) rfl
    have fr : ∀ i, wc.frozen? ⟨w.heap.size + 1 + 1, i, none⟩ = false := h1.free _ (List.mem_cons_of_mem _ m3)
    obtain ⟨e0, e1⟩ := own2 k0 k1
    go_wp2_with fail
    refine bodyPost_ret (v := .agg #[.int .i64 (spanLo (a.tdiv c) (a.tdiv d) (b.tdiv c) (b.tdiv d)), .int .i64 (spanHi (a.tdiv c) (a.tdiv d) (b.tdiv c) (b.tdiv d))]) (by simp [results, Try.results40, go_sem, e0, e1]) rfl ⟨rfl, ?_⟩
    repeat (first | exact h1.below | refine Below.setCell ?_ (by simp; try omega) _)
set_option maxRecDepth 10000 in
set_option maxHeartbeats 4000000 in
theorem divS_m (a b c : Int) (w : World) (ha : okB a = true) (hb : okB b = true) (h1 : c ≤ -1) :
    Calls Try.prog 40 #[.agg #[.int .i64 a, .int .i64 b], .agg #[.int .i64 c, .int .i64 0]] w fun e w' => e = .returned (.agg #[.int .i64 (spanLo (a.tdiv c) (-a) (b.tdiv c) (-b)), .int .i64 (spanHi (a.tdiv c) (-a) (b.tdiv c) (-b))]) ∧ Below w.heap.size w w' := by
  have g0 : (c == 0) = false := by simp; omega
  have n0 : ¬ c = 0 := by omega
  have q0 : IntKind.i64.wrap (a.tdiv c) = a.tdiv c := i64_div ha c
  have r0 : IntKind.i64.wrap (b.tdiv c) = b.tdiv c := i64_div hb c
  have u2 : IntKind.i64.wrap (-a) = -a := i64_of (by have := ok_hi ha; omega) (by have := ok_lo ha; omega)
  have u3 : IntKind.i64.wrap (-b) = -b := i64_of (by have := ok_hi hb; omega) (by have := ok_lo hb; omega)
  go_enter Try.func40, Try.ntmps40
  go_wp2_with fail
  generalize hw0 : (((w.alloc (Obj.cells #[Value.int IntKind.i64 a, Value.int IntKind.i64 b] 24)).alloc (Obj.cells #[Value.int IntKind.i64 c, Value.int IntKind.i64 0] 24)).alloc (Obj.cells #[Value.int IntKind.i64 0, Value.int IntKind.i64 0] 24)) = w0
  obtain ⟨L, hL⟩ : ∃ L, L = [(w.heap.size + 1 + 1, [Value.int .i64 0, Value.int .i64 0]), (w.heap.size + 1, [Value.int .i64 c, Value.int .i64 0]), (w.heap.size, [Value.int .i64 a, Value.int .i64 b])] := ⟨_, rfl⟩
  have h0 : HeldL w L w0 := by rw [← hw0, hL]; exact held3 _ _ _ _ _ _ _ _
  have mm : (w.heap.size, [Value.int .i64 a, .int .i64 b]) ∈ L ∧ (w.heap.size + 1, [Value.int .i64 c, .int .i64 0]) ∈ L := by rw [hL]; simp
  have m3 : (w.heap.size + 1 + 1, [Value.int .i64 0, .int .i64 0]) ∈ L := by rw [hL]; simp
  obtain ⟨T, hT⟩ : ∃ T, T = w.heap.size + 1 + 1 := ⟨_, rfl⟩
  have wT : w.heap.size < T := by omega
  have mT : (T, [Value.int .i64 0, .int .i64 0]) ∈ L := by rw [hT]; exact m3
  have lT : ∀ e ∈ L, e.1 ≤ T := by
    rw [hL, hT]; intro e he
    simp at he
    rcases he with rfl | rfl | rfl <;> simp only [] <;> omega
  have qT : ∀ W : World, T < W.heap.size → ∀ e ∈ L, e.1 < W.heap.size := fun W h e he => Nat.lt_of_le_of_lt (lT e he) h
  have nT : ∀ k : Nat, T < k → ∀ e ∈ L, e.1 ≠ k := fun k h e he => by have := lT e he; omega
  have zT : T < w0.heap.size := h0.size mT
  clear hw0 hL hT
  go_cut [7] (fun p0 W => ∃ g0, p0 = .pointer (some ⟨g0, 0, none⟩) ∧ T < g0 ∧ HeldL w ((g0, [.int .i64 (spanLo (a.tdiv c) (-a) (b.tdiv c) (-b)), .int .i64 (spanHi (a.tdiv c) (-a) (b.tdiv c) (-b))]) :: L) W)
  case first =>
    go_region_held3 (fun W => W.cell? ⟨w.heap.size, 0, none⟩ = some (.int .i64 a) ∧ W.cell? ⟨w.heap.size, 1, none⟩ = some (.int .i64 b) ∧ W.cell? ⟨w.heap.size + 1, 0, none⟩ = some (.int .i64 c) ∧ W.cell? ⟨w.heap.size + 1, 1, none⟩ = some (.int .i64 0) ∧ HeldL w L W) (first | exact K4.of mm h0.drew | exact K4.of mm hH | exact K4.of mm (HeldL.alloc _ (K4.held (by assumption))) | exact K4.of mm (HeldL.realloc (by omega) (qT _ (by assumption)) (K4.held (by assumption))) | exact K4.of mm (HeldL.setCell _ _ (by dsimp only; omega) (nT _ (by dsimp only; omega)) (HeldL.setCell _ _ (by dsimp only; omega) (nT _ (by dsimp only; omega)) (K4.held (by assumption))))) (first | (go_at_call 39; refine (spanS _ _ _ _ _).mono ?_; rintro e w' ⟨rfl, hB⟩; have hH := HeldL.next hB (K4.held (by assumption)); have hzz := hH.size mT; obtain ⟨hc, hf⟩ := bcell hB))
    all_goals (go_wp2_with fail)
    all_goals go_meet
    all_goals first | exact ⟨_, rfl, by omega, HeldL.new hH⟩ | exact ⟨_, rfl, by omega, HeldL.old (by assumption) (by omega) (qT _ (by omega)) hH⟩ | exact ⟨_, rfl, by omega, HeldL.oldDrew (by assumption) (by omega) (qT _ (by omega)) hH⟩
  case rest =>
    obtain ⟨g, rfl, hg, h1⟩ := hcut
    have mg : (g, [Value.int .i64 (spanLo (a.tdiv c) (-a) (b.tdiv c) (-b)), .int .i64 (spanHi (a.tdiv c) (-a) (b.tdiv c) (-b))]) ∈ (g, [Value.int .i64 (spanLo (a.tdiv c) (-a) (b.tdiv c) (-b)), .int .i64 (spanHi (a.tdiv c) (-a) (b.tdiv c) (-b))]) :: L := List.mem_cons_self
    have x0 := h1.cell mg (i := 0) rfl
    have x1 := h1.cell mg (i := 1) rfl
    have d0 := h1.cell (List.mem_cons_of_mem _ mm.2) (i := 0) rfl
    have d1 := h1.cell (List.mem_cons_of_mem _ mm.2) (i := 1) rfl
    have k0 := h1.cell (List.mem_cons_of_mem _ m3) (i := 0) rfl
    have k1 := h1.cell (List.mem_cons_of_mem _ m3) (i := 1) rfl
    have fr : ∀ i, wc.frozen? ⟨w.heap.size + 1 + 1, i, none⟩ = false := h1.free _ (List.mem_cons_of_mem _ m3)
    obtain ⟨e0, e1⟩ := own2 k0 k1
    go_wp2_with fail
    refine bodyPost_ret (v := .agg #[.int .i64 (spanLo (a.tdiv c) (-a) (b.tdiv c) (-b)), .int .i64 (spanHi (a.tdiv c) (-a) (b.tdiv c) (-b))]) (by simp [results, Try.results40, go_sem, e0, e1]) rfl ⟨rfl, ?_⟩
    repeat (first | exact h1.below | refine Below.setCell ?_ (by simp; try omega) _)
set_option maxRecDepth 10000 in
set_option maxHeartbeats 4000000 in
theorem divS_b (a b c d : Int) (w : World) (ha : okB a = true) (hb : okB b = true) (h1 : c ≤ -1) (h2 : 1 ≤ d) :
    Calls Try.prog 40 #[.agg #[.int .i64 a, .int .i64 b], .agg #[.int .i64 c, .int .i64 d]] w fun e w' => e = .returned (.agg #[.int .i64 (min (spanLo (a.tdiv c) (-a) (b.tdiv c) (-b)) (spanLo a (a.tdiv d) b (b.tdiv d))), .int .i64 (max (spanHi (a.tdiv c) (-a) (b.tdiv c) (-b)) (spanHi a (a.tdiv d) b (b.tdiv d)))]) ∧ Below w.heap.size w w' := by
  have g0 : (c == 0) = false := by simp; omega
  have n0 : ¬ c = 0 := by omega
  have q0 : IntKind.i64.wrap (a.tdiv c) = a.tdiv c := i64_div ha c
  have r0 : IntKind.i64.wrap (b.tdiv c) = b.tdiv c := i64_div hb c
  have g1 : (d == 0) = false := by simp; omega
  have n1 : ¬ d = 0 := by omega
  have q1 : IntKind.i64.wrap (a.tdiv d) = a.tdiv d := i64_div ha d
  have r1 : IntKind.i64.wrap (b.tdiv d) = b.tdiv d := i64_div hb d
  have u2 : IntKind.i64.wrap (-a) = -a := i64_of (by have := ok_hi ha; omega) (by have := ok_lo ha; omega)
  have u3 : IntKind.i64.wrap (-b) = -b := i64_of (by have := ok_hi hb; omega) (by have := ok_lo hb; omega)
  go_enter Try.func40, Try.ntmps40
  go_wp2_with fail
  generalize hw0 : (((w.alloc (Obj.cells #[Value.int IntKind.i64 a, Value.int IntKind.i64 b] 24)).alloc (Obj.cells #[Value.int IntKind.i64 c, Value.int IntKind.i64 d] 24)).alloc (Obj.cells #[Value.int IntKind.i64 0, Value.int IntKind.i64 0] 24)) = w0
  obtain ⟨L, hL⟩ : ∃ L, L = [(w.heap.size + 1 + 1, [Value.int .i64 0, Value.int .i64 0]), (w.heap.size + 1, [Value.int .i64 c, Value.int .i64 d]), (w.heap.size, [Value.int .i64 a, Value.int .i64 b])] := ⟨_, rfl⟩
  have h0 : HeldL w L w0 := by rw [← hw0, hL]; exact held3 _ _ _ _ _ _ _ _
  have mm : (w.heap.size, [Value.int .i64 a, .int .i64 b]) ∈ L ∧ (w.heap.size + 1, [Value.int .i64 c, .int .i64 d]) ∈ L := by rw [hL]; simp
  have m3 : (w.heap.size + 1 + 1, [Value.int .i64 0, .int .i64 0]) ∈ L := by rw [hL]; simp
  obtain ⟨T, hT⟩ : ∃ T, T = w.heap.size + 1 + 1 := ⟨_, rfl⟩
  have wT : w.heap.size < T := by omega
  have mT : (T, [Value.int .i64 0, .int .i64 0]) ∈ L := by rw [hT]; exact m3
  have lT : ∀ e ∈ L, e.1 ≤ T := by
    rw [hL, hT]; intro e he
    simp at he
    rcases he with rfl | rfl | rfl <;> simp only [] <;> omega
  have qT : ∀ W : World, T < W.heap.size → ∀ e ∈ L, e.1 < W.heap.size := fun W h e he => Nat.lt_of_le_of_lt (lT e he) h
  have nT : ∀ k : Nat, T < k → ∀ e ∈ L, e.1 ≠ k := fun k h e he => by have := lT e he; omega
  have zT : T < w0.heap.size := h0.size mT
  clear hw0 hL hT
  go_cut [7] (fun p0 W => ∃ g0, p0 = .pointer (some ⟨g0, 0, none⟩) ∧ T < g0 ∧ HeldL w ((g0, [.int .i64 (spanLo (a.tdiv c) (-a) (b.tdiv c) (-b)), .int .i64 (spanHi (a.tdiv c) (-a) (b.tdiv c) (-b))]) :: L) W)
  case first =>
    go_region_held3 (fun W => W.cell? ⟨w.heap.size, 0, none⟩ = some (.int .i64 a) ∧ W.cell? ⟨w.heap.size, 1, none⟩ = some (.int .i64 b) ∧ W.cell? ⟨w.heap.size + 1, 0, none⟩ = some (.int .i64 c) ∧ W.cell? ⟨w.heap.size + 1, 1, none⟩ = some (.int .i64 d) ∧ HeldL w L W) (first | exact K4.of mm h0.drew | exact K4.of mm hH | exact K4.of mm (HeldL.alloc _ (K4.held (by assumption))) | exact K4.of mm (HeldL.realloc (by omega) (qT _ (by assumption)) (K4.held (by assumption))) | exact K4.of mm (HeldL.setCell _ _ (by dsimp only; omega) (nT _ (by dsimp only; omega)) (HeldL.setCell _ _ (by dsimp only; omega) (nT _ (by dsimp only; omega)) (K4.held (by assumption))))) (first | (go_at_call 39; refine (spanS _ _ _ _ _).mono ?_; rintro e w' ⟨rfl, hB⟩; have hH := HeldL.next hB (K4.held (by assumption)); have hzz := hH.size mT; obtain ⟨hc, hf⟩ := bcell hB))
    all_goals (go_wp2_with fail)
    all_goals go_meet
    all_goals first | exact ⟨_, rfl, by omega, HeldL.new hH⟩ | exact ⟨_, rfl, by omega, HeldL.old (by assumption) (by omega) (qT _ (by omega)) hH⟩ | exact ⟨_, rfl, by omega, HeldL.oldDrew (by assumption) (by omega) (qT _ (by omega)) hH⟩
  case rest =>
    obtain ⟨g, rfl, hg, h1⟩ := hcut
    have mg : (g, [Value.int .i64 (spanLo (a.tdiv c) (-a) (b.tdiv c) (-b)), .int .i64 (spanHi (a.tdiv c) (-a) (b.tdiv c) (-b))]) ∈ (g, [Value.int .i64 (spanLo (a.tdiv c) (-a) (b.tdiv c) (-b)), .int .i64 (spanHi (a.tdiv c) (-a) (b.tdiv c) (-b))]) :: L := List.mem_cons_self
    have mm1 := And.intro (List.mem_cons_of_mem (g, [Value.int .i64 (spanLo (a.tdiv c) (-a) (b.tdiv c) (-b)), .int .i64 (spanHi (a.tdiv c) (-a) (b.tdiv c) (-b))]) mm.1) (List.mem_cons_of_mem (g, [Value.int .i64 (spanLo (a.tdiv c) (-a) (b.tdiv c) (-b)), .int .i64 (spanHi (a.tdiv c) (-a) (b.tdiv c) (-b))]) mm.2)
    have m31 := List.mem_cons_of_mem (g, [Value.int .i64 (spanLo (a.tdiv c) (-a) (b.tdiv c) (-b)), .int .i64 (spanHi (a.tdiv c) (-a) (b.tdiv c) (-b))]) m3
    have lT1 : ∀ e ∈ (g, [Value.int .i64 (spanLo (a.tdiv c) (-a) (b.tdiv c) (-b)), .int .i64 (spanHi (a.tdiv c) (-a) (b.tdiv c) (-b))]) :: L, e.1 ≤ g := fun e he => by
      rcases List.mem_cons.1 he with rfl | he
      · exact Nat.le_refl _
      · have := lT e he; omega
    have wT1 : w.heap.size < g := by omega
    generalize (g, [Value.int .i64 (spanLo (a.tdiv c) (-a) (b.tdiv c) (-b)), .int .i64 (spanHi (a.tdiv c) (-a) (b.tdiv c) (-b))]) :: L = L1 at h1 mg mm1 lT1 m31
    have qT1 : ∀ W : World, g < W.heap.size → ∀ e ∈ L1, e.1 < W.heap.size := fun W h e he => Nat.lt_of_le_of_lt (lT1 e he) h
    have nT1 : ∀ k : Nat, g < k → ∀ e ∈ L1, e.1 ≠ k := fun k h e he => by have := lT1 e he; omega
    have zT1 : g < wc.heap.size := h1.size mg
    clear qT nT zT lT mT mm m3 h0
    have d1 := h1.cell mm1.2 (i := 1) rfl
    go_wp2_with fail
    clear d1
    go_cut [8] (fun p0 W => ∃ g0, p0 = .pointer (some ⟨g0, 0, none⟩) ∧ g < g0 ∧ HeldL w ((g0, [Value.int .i64 (spanLo a (a.tdiv d) b (b.tdiv d)), .int .i64 (spanHi a (a.tdiv d) b (b.tdiv d))]) :: L1) W)
    case first =>
      go_region_held3 (fun W => W.cell? ⟨w.heap.size, 0, none⟩ = some (.int .i64 a) ∧ W.cell? ⟨w.heap.size, 1, none⟩ = some (.int .i64 b) ∧ W.cell? ⟨w.heap.size + 1, 0, none⟩ = some (.int .i64 c) ∧ W.cell? ⟨w.heap.size + 1, 1, none⟩ = some (.int .i64 d) ∧ HeldL w L1 W) (first | exact K4.of mm1 h1.drew | exact K4.of mm1 hH | exact K4.of mm1 (HeldL.alloc _ (K4.held (by assumption))) | exact K4.of mm1 (HeldL.realloc (by omega) (qT1 _ (by assumption)) (K4.held (by assumption))) | exact K4.of mm1 (HeldL.setCell _ _ (by dsimp only; omega) (nT1 _ (by dsimp only; omega)) (HeldL.setCell _ _ (by dsimp only; omega) (nT1 _ (by dsimp only; omega)) (K4.held (by assumption))))) (first | (go_at_call 39; refine (spanS _ _ _ _ _).mono ?_; rintro e w' ⟨rfl, hB⟩; have hH := HeldL.next hB (K4.held (by assumption)); have hzz := hH.size mg; obtain ⟨hc, hf⟩ := bcell hB))
      all_goals (go_wp2_with fail)
      all_goals go_meet
      all_goals first | exact ⟨_, rfl, by omega, HeldL.new hH⟩ | exact ⟨_, rfl, by omega, HeldL.old (by assumption) (by omega) (qT1 _ (by omega)) hH⟩ | exact ⟨_, rfl, by omega, HeldL.oldDrew (by assumption) (by omega) (qT1 _ (by omega)) hH⟩
    case rest =>
      obtain ⟨gg, rfl, hgg, h2'⟩ := hcut
      have x0 := h2'.cell (List.mem_cons_of_mem _ mg) (i := 0) rfl
      have x1 := h2'.cell (List.mem_cons_of_mem _ mg) (i := 1) rfl
      have y0 := h2'.cell (e := (gg, [Value.int .i64 (spanLo a (a.tdiv d) b (b.tdiv d)), .int .i64 (spanHi a (a.tdiv d) b (b.tdiv d))])) List.mem_cons_self (i := 0) rfl
      have y1 := h2'.cell (e := (gg, [Value.int .i64 (spanLo a (a.tdiv d) b (b.tdiv d)), .int .i64 (spanHi a (a.tdiv d) b (b.tdiv d))])) List.mem_cons_self (i := 1) rfl
      have k0 := h2'.cell (List.mem_cons_of_mem _ m31) (i := 0) rfl
      have k1 := h2'.cell (List.mem_cons_of_mem _ m31) (i := 1) rfl
      have fr := h2'.free _ (List.mem_cons_of_mem _ m31)
      obtain ⟨e0, e1⟩ := own2 k0 k1
      simp only [] at x0 x1 y0 y1 k0 k1 fr e0 e1
      go_wp2_with fail
      all_goals (refine bodyPost_ret (v := .agg #[.int .i64 (min (spanLo (a.tdiv c) (-a) (b.tdiv c) (-b)) (spanLo a (a.tdiv d) b (b.tdiv d))), .int .i64 (max (spanHi (a.tdiv c) (-a) (b.tdiv c) (-b)) (spanHi a (a.tdiv d) b (b.tdiv d)))]) (by simp [results, Try.results40, go_sem, e0, e1]; omega) rfl ⟨rfl, ?_⟩)
      all_goals repeat (first | exact h2'.below | refine Below.setCell ?_ (by simp; try omega) _)
end Go.Proofs.Ytceanngbcolbaaa
