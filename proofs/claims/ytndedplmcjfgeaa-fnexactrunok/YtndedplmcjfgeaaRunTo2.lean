/- Runs copied, whole. -/
import Derived.Test.YtndedplmcjfgeaaRunTo
namespace Go.Proofs.Ytndedplmcjfgeaa
open Go.ChangeShapes Go.WideShapes Go.ChangeAt Go.RowKit

theorem FramesAt.set {a : Option Addr} {b off m : Nat} {F : Nat → Frm} {S : Nat → FSpot} {W : World} {G o : Nat} {vs : List Value} (h : FramesAt a b off m F S W) (hne : b ≠ G) (hs : ∀ i, i < m → (S i).v.b ≠ G ∧ (S i).c.b ≠ G) : FramesAt a b off m F S (setAll G o vs W) :=
  have k : ∀ q, (setAll G o vs W).cell? ⟨b, q, none⟩ = W.cell? ⟨b, q, none⟩ := fun q => setAll_other _ _ _ _ (fun j' _ e => hne (by injection e))
  ⟨h.at_, fun hm => Nat.lt_of_lt_of_le (h.lt hm) (setAll_below (B := 0) (w := W) (Nat.zero_le _) vs o W (Below.refl _ _)).size, fun i hi => (k _).trans (h.proc i hi), fun i hi => (k _).trans (h.pc i hi), fun i hi => (k _).trans (h.vars i hi), fun i hi => (k _).trans (h.cells i hi), fun i hi => (h.vs i hi).set (hs i hi).1, fun i hi => (h.cs i hi).set (hs i hi).2⟩
/-- A copy: each call's lists lie in blocks of their own, from their beginning on. -/
def FCopy (S : Nat → FSpot) (F : Nat → Frm) (m : Nat) : Prop := ∀ i, i < m → S i = ⟨⟨some ⟨(S i).v.b, 0, none⟩, (S i).v.b, 0, (F i).nv⟩, ⟨some ⟨(S i).c.b, 0, none⟩, (S i).c.b, 0, (F i).nc⟩⟩
/-- What lies in the copy's list when k calls are copied. -/
structure FPart (w : World) (G m k : Nat) (F : Nat → Frm) (S : Nat → FSpot) (W : World) : Prop where
  below : Below w.heap.size w W
  lt : G < W.heap.size
  proc : ∀ i, i < m → W.cell? ⟨G, i * 4, none⟩ = some (.int .i64 (if i < k then (F i).proc else 0))
  pc : ∀ i, i < m → W.cell? ⟨G, i * 4 + 1, none⟩ = some (.int .i64 (if i < k then (F i).pc else 0))
  vars : ∀ i, i < m → W.cell? ⟨G, i * 4 + 2, none⟩ = some (if i < k then .slice (S i).v.a (F i).nv (S i).v.cap else .slice none 0 0)
  cells : ∀ i, i < m → W.cell? ⟨G, i * 4 + 3, none⟩ = some (if i < k then .slice (S i).c.a (F i).nc (S i).c.cap else .slice none 0 0)
  free : ∀ i, W.frozen? ⟨G, i, none⟩ = false
  behind : ∀ i, i < k → G < (S i).v.b ∧ G < (S i).c.b
  vs : ∀ i, i < k → IntsAt (S i).v.a (S i).v.b (S i).v.off (F i).nv (F i).v W
  cs : ∀ i, i < k → IntsAt (S i).c.a (S i).c.b (S i).c.off (F i).nc (F i).c W
  copy : FCopy S F k
theorem FPart.next {w : World} {G m k : Nat} {F : Nat → Frm} {S : Nat → FSpot} {W W' : World} (h : FPart w G m k F S W) (hb : Below W.heap.size W W') : FPart w G m k F S W' :=
  have q : ∀ o, W'.cell? ⟨G, o, none⟩ = W.cell? ⟨G, o, none⟩ := fun o => hb.cell (p := ⟨G, o, none⟩) h.lt
  ⟨below_tr h.below hb, Nat.lt_of_lt_of_le h.lt hb.size, fun i hi => (q _).trans (h.proc i hi), fun i hi => (q _).trans (h.pc i hi), fun i hi => (q _).trans (h.vars i hi), fun i hi => (q _).trans (h.cells i hi), fun i => (hb.frozen (p := ⟨G, i, none⟩) h.lt).trans (h.free i), h.behind, fun i hi => (h.vs i hi).next hb, fun i hi => (h.cs i hi).next hb, h.copy⟩
set_option maxHeartbeats 2000000 in
/-- One call more. -/
theorem FPart.put {w : World} {G m k : Nat} {F : Nat → Frm} {S : Nat → FSpot} {W : World} {g g' : Nat} (hk : k < m) (hw : w.heap.size ≤ G) (h : FPart w G m k F S W) (hg : G < g) (hg' : G < g') (hC : IntsAt (some ⟨g, 0, none⟩) g 0 (F k).nv (F k).v W) (hC' : IntsAt (some ⟨g', 0, none⟩) g' 0 (F k).nc (F k).c W) :
    FPart w G m (k + 1) F (fun i => if i = k then ⟨⟨some ⟨g, 0, none⟩, g, 0, (F k).nv⟩, ⟨some ⟨g', 0, none⟩, g', 0, (F k).nc⟩⟩ else S i) (setAll G (k * 4) [.int .i64 (F k).proc, .int .i64 (F k).pc, .slice (some ⟨g, 0, none⟩) (F k).nv (F k).nv, .slice (some ⟨g', 0, none⟩) (F k).nc (F k).nc] W) := by
  have hsome : ∀ j, j < [(.int .i64 (F k).proc : Value), .int .i64 (F k).pc, .slice (some ⟨g, 0, none⟩) (F k).nv (F k).nv, .slice (some ⟨g', 0, none⟩) (F k).nc (F k).nc].length → (W.cell? ⟨G, k * 4 + j, none⟩).isSome = true := fun j hj => by
    rcases (show j = 0 ∨ j = 1 ∨ j = 2 ∨ j = 3 by simp at hj; omega) with rfl | rfl | rfl | rfl
    · rw [Nat.add_zero, h.proc k hk]; rfl
    · rw [h.pc k hk]; rfl
    · rw [h.vars k hk]; rfl
    · rw [h.cells k hk]; rfl
  have oth : ∀ i d, i ≠ k → d < 4 → (setAll G (k * 4) [.int .i64 (F k).proc, .int .i64 (F k).pc, .slice (some ⟨g, 0, none⟩) (F k).nv (F k).nv, .slice (some ⟨g', 0, none⟩) (F k).nc (F k).nc] W).cell? ⟨G, i * 4 + d, none⟩ = W.cell? ⟨G, i * 4 + d, none⟩ := fun i d hi hd => setAll_other _ _ _ _ (fun j hj e => by
    have hj' : j < 4 := by simpa using hj
    have : i * 4 + d = k * 4 + j := by injection e
    omega)
  refine ⟨setAll_below hw _ _ _ h.below, Nat.lt_of_lt_of_le h.lt (setAll_below (B := 0) (w := W) (Nat.zero_le _) _ _ W (Below.refl _ _)).size, fun i hi => ?_, fun i hi => ?_, fun i hi => ?_, fun i hi => ?_, fun i => (setAll_frozen _ _ _ _).trans (h.free i), fun i hi => ?_, fun i hi => ?_, fun i hi => ?_, fun i hi => ?_⟩
  · by_cases hik : i = k
    · subst hik
      rw [if_pos (by omega)]
      exact setAll_at _ (i * 4) W 0 _ hsome rfl
    · have := oth i 0 hik (by omega)
      rw [Nat.add_zero] at this
      rw [this, h.proc i hi]
      by_cases h1 : i < k
      · rw [if_pos h1, if_pos (by omega)]
      · rw [if_neg h1, if_neg (by omega)]
  · by_cases hik : i = k
    · subst hik
      rw [if_pos (by omega)]
      exact setAll_at _ (i * 4) W 1 _ hsome rfl
    · rw [oth i 1 hik (by omega), h.pc i hi]
      by_cases h1 : i < k
      · rw [if_pos h1, if_pos (by omega)]
      · rw [if_neg h1, if_neg (by omega)]
  · by_cases hik : i = k
    · subst hik
      rw [if_pos (by omega), if_pos rfl]
      exact setAll_at _ (i * 4) W 2 _ hsome rfl
    · rw [oth i 2 hik (by omega), h.vars i hi, if_neg hik]
      by_cases h1 : i < k
      · rw [if_pos h1, if_pos (by omega)]
      · rw [if_neg h1, if_neg (by omega)]
  · by_cases hik : i = k
    · subst hik
      rw [if_pos (by omega), if_pos rfl]
      exact setAll_at _ (i * 4) W 3 _ hsome rfl
    · rw [oth i 3 hik (by omega), h.cells i hi, if_neg hik]
      by_cases h1 : i < k
      · rw [if_pos h1, if_pos (by omega)]
      · rw [if_neg h1, if_neg (by omega)]
  · by_cases hik : i = k
    · rw [if_pos hik]; exact ⟨hg, hg'⟩
    · rw [if_neg hik]; exact h.behind i (by omega)
  · by_cases hik : i = k
    · subst hik
      rw [if_pos rfl]
      exact hC.set (by omega)
    · rw [if_neg hik]
      exact (h.vs i (by omega)).set (by have := (h.behind i (by omega)).1; omega)
  · by_cases hik : i = k
    · subst hik
      rw [if_pos rfl]
      exact hC'.set (by omega)
    · rw [if_neg hik]
      exact (h.cs i (by omega)).set (by have := (h.behind i (by omega)).2; omega)
  · by_cases hik : i = k
    · subst hik
      simp only [if_true]
    · simp only [hik, if_false]
      exact h.copy i (by omega)
theorem FPart.whole {w : World} {G m : Nat} {F : Nat → Frm} {S : Nat → FSpot} {W : World} (h : FPart w G m m F S W) : FramesAt (some ⟨G, 0, none⟩) G 0 m F S W :=
  ⟨fun _ => rfl, fun _ => h.lt, fun i hi => by rw [Nat.zero_add, h.proc i hi, if_pos hi], fun i hi => by rw [Nat.zero_add, h.pc i hi, if_pos hi], fun i hi => by rw [Nat.zero_add, h.vars i hi, if_pos hi], fun i hi => by rw [Nat.zero_add, h.cells i hi, if_pos hi], h.vs, h.cs⟩

set_option maxRecDepth 10000 in
set_option maxHeartbeats 4000000 in
theorem toFrms (a : Option Addr) (b off m cap : Nat) (F : Nat → Frm) (S : Nat → FSpot) (w : World) (hm : m ≤ 1048576) (hn : ∀ i, i < m → (F i).nv ≤ 1048576 ∧ (F i).nc ≤ 1048576) (hP : FramesAt a b off m F S w) :
    Calls Try.prog 49 #[.slice a m cap] w fun e w' => ∃ (g : Nat) (S' : Nat → FSpot), e = .returned (.slice (some ⟨g, 0, none⟩) m m) ∧ w.heap.size ≤ g ∧ g < w'.heap.size ∧ FramesAt (some ⟨g, 0, none⟩) g 0 m F S' w' ∧ (∀ i, i < m → g < (S' i).v.b ∧ g < (S' i).c.b) ∧ FCopy S' F m ∧ Below w.heap.size w w' := by
  have hmk := fun W => make_rows (P := Try.prog) 45 73 (.agg #[.int .i64 0, .int .i64 0, .slice none 0 0, .slice none 0 0]) 4 64 Try.underlying45 (by kernel_rfl) m (by omega) (by omega) W
  go_enter Try.func49, Try.ntmps49
  go_wp2
  have h0 : FPart w w.heap.size m 0 F S (w.alloc (.cells (madeCells #[.int .i64 0, .int .i64 0, .slice none 0 0, .slice none 0 0] (m * 4)) 73)) := by
    have c : ∀ i j, i < m → j < 4 → (w.alloc (.cells (madeCells #[.int .i64 0, .int .i64 0, .slice none 0 0, .slice none 0 0] (m * 4)) 73)).cell? ⟨w.heap.size, i * 4 + j, none⟩ = some ((#[.int .i64 0, .int .i64 0, .slice none 0 0, .slice none 0 0] : Array Value)[j]!) := fun i j hi hj => by
      rw [made_cell _ _ _ _ _ (by omega), show (i * 4 + j) % ((#[.int .i64 0, .int .i64 0, .slice none 0 0, .slice none 0 0] : Array Value)).size = j by simp <;> omega]
    refine ⟨(Below.refl _ _).alloc (Nat.le_refl _) _, by simp, fun i hi => ?_, fun i hi => ?_, fun i hi => ?_, fun i hi => ?_, fun i => World.frozen?_alloc_new _ _ _ _, fun i hi => by omega, fun i hi => by omega, fun i hi => by omega, fun i hi => by omega⟩
    · have := c i 0 hi (by omega)
      rw [Nat.add_zero] at this
      rw [this]; simp
    · rw [c i 1 hi (by omega)]; simp
    · rw [c i 2 hi (by omega)]; simp
    · rw [c i 3 hi (by omega)]; simp
  generalize w.alloc (.cells (madeCells #[.int .i64 0, .int .i64 0, .slice none 0 0, .slice none 0 0] (m * 4)) 73) = W1 at h0 ⊢
  clear hmk
  obtain ⟨g, hg⟩ : ∃ g, g = w.heap.size := ⟨_, rfl⟩
  have hgS : Hid (g = w.heap.size) := hg
  rw [← hg] at h0
  rw [← hg]
  clear hg
  go_loopw [4] (fun i wr => ∃ (k : Nat) (S' : Nat → FSpot), k ≤ m ∧ i = .int .i64 k ∧ FPart w g m k F S' wr) (fun i _ => m - (intOf i).toNat)
  case atStart => exact ⟨0, S, Nat.zero_le _, rfl, h0⟩
  case round =>
    obtain ⟨k, S', hk, rfl, hR⟩ := hrel
    clear h0
    by_cases hlt : k < m
    · have hP' := hP.next hR.below
      have e1 := hP'.at_ (by omega)
      have c0 := hP'.proc k hlt
      have c1 := hP'.pc k hlt
      have c2 := hP'.vars k hlt
      have c3 := hP'.cells k hlt
      have hC := hP'.vs k hlt
      have hD := hP'.cs k hlt
      have hn' := hn k hlt
      have t1 : ((k : Int)).toNat = k := by omega
      have t2 : (0 : Int) ≤ (k : Int) := by omega
      have t3 : (k : Int) < (m : Int) := by omega
      subst e1
      clear hP hP' hn
      generalize S k = s at c2 c3 hC hD
      go_wp2_with fail
      refine (toFrm _ _ _ _ _ _ _ _ _ _ _ _ _ _ _ hn'.1 hn'.2 hC hD).mono ?_
      rintro e w1 ⟨x, x', rfl, hx, hx1, hx', hx1', hK, hK', hb⟩
      have hR1 := hR.next hb
      have hgx : g < x := Nat.lt_of_lt_of_le hR.lt hx
      have hgx' : g < x' := Nat.lt_of_lt_of_le hR.lt hx'
      have z0 := hR1.proc k hlt
      have z1 := hR1.pc k hlt
      have z2 := hR1.vars k hlt
      have z3 := hR1.cells k hlt
      rw [if_neg (by omega)] at z0 z1 z2 z3
      have f0 := hR1.free
      clear c0 c1 c2 c3 hC hD
      go_wp2_with fail
      go_roundw
      case measure => simp [intOf]; omega
      exact ⟨k + 1, _, by omega, by go_num, hR1.put hlt (by rw [hgS.out]; exact Nat.le_refl _) hgx hgx' hK hK'⟩
    · obtain rfl : k = m := by omega
      go_wp2_with fail
      go_ret
      exact ⟨g, S', rfl, by rw [hgS.out]; exact Nat.le_refl _, hR.lt, hR.whole, hR.behind, hR.copy, hR.below⟩
set_option maxRecDepth 10000 in
set_option maxHeartbeats 4000000 in
theorem toRun (st out pr pc : Int) (a : Option Addr) (b off m cap : Nat) (F : Nat → Frm) (S : Nat → FSpot) (w : World) (hm : m ≤ 1048576) (hn : ∀ i, i < m → (F i).nv ≤ 1048576 ∧ (F i).nc ≤ 1048576) (hP : FramesAt a b off m F S w) :
    Calls Try.prog 22 #[.agg #[.int .i64 st, .slice a m cap, .int .i64 out, .int .i64 pr, .int .i64 pc]] w fun e w' => ∃ (g : Nat) (S' : Nat → FSpot), e = .returned (.agg #[.int .i64 st, .slice (some ⟨g, 0, none⟩) m m, .int .i64 out, .int .i64 pr, .int .i64 pc]) ∧ w.heap.size ≤ g ∧ g < w'.heap.size ∧ FramesAt (some ⟨g, 0, none⟩) g 0 m F S' w' ∧ (∀ i, i < m → g < (S' i).v.b ∧ g < (S' i).c.b) ∧ FCopy S' F m ∧ Below w.heap.size w w' := by
  have H0 : HeldL w [(w.heap.size + 1 + 1, [Value.int .i64 st, .slice none 0 0, .int .i64 0, .int .i64 0, .int .i64 0]), (w.heap.size + 1, [Value.int .i64 0, .slice none 0 0, .int .i64 0, .int .i64 0, .int .i64 0]), (w.heap.size, [Value.int .i64 st, .slice a m cap, .int .i64 out, .int .i64 pr, .int .i64 pc])] (((w.alloc (.cells #[.int .i64 st, .slice a m cap, .int .i64 out, .int .i64 pr, .int .i64 pc] 42)).alloc (.cells #[.int .i64 0, .slice none 0 0, .int .i64 0, .int .i64 0, .int .i64 0] 47)).alloc (.cells #[.int .i64 st, .slice none 0 0, .int .i64 0, .int .i64 0, .int .i64 0] 47)) := by
    have e1 : w.heap.size + 1 = (w.alloc (.cells #[.int .i64 st, .slice a m cap, .int .i64 out, .int .i64 pr, .int .i64 pc] 42)).heap.size := by simp
    have e2 : w.heap.size + 1 + 1 = ((w.alloc (.cells #[.int .i64 st, .slice a m cap, .int .i64 out, .int .i64 pr, .int .i64 pc] 42)).alloc (.cells #[.int .i64 0, .slice none 0 0, .int .i64 0, .int .i64 0, .int .i64 0] 47)).heap.size := by simp
    rw [e2, e1]
    exact HeldL.newL (vs := [Value.int .i64 st, .slice none 0 0, .int .i64 0, .int .i64 0, .int .i64 0]) (HeldL.newL (vs := [Value.int .i64 0, .slice none 0 0, .int .i64 0, .int .i64 0, .int .i64 0]) (HeldL.newL (vs := [Value.int .i64 st, .slice a m cap, .int .i64 out, .int .i64 pr, .int .i64 pc]) (HeldL.nil w)))
  have ne2 : ∀ e ∈ [(w.heap.size + 1, [Value.int .i64 0, .slice none 0 0, .int .i64 0, .int .i64 0, .int .i64 0]), (w.heap.size, [Value.int .i64 st, .slice a m cap, .int .i64 out, .int .i64 pr, .int .i64 pc])], e.1 ≠ w.heap.size + 1 + 1 := by intro e he; simp at he; rcases he with rfl | rfl <;> dsimp only <;> omega
  have I0 := hP.next H0.below
  clear hP
  go_enter Try.func22, Try.ntmps22
  go_wp2_with fail
  refine (toFrms _ _ _ _ _ _ _ _ hm hn I0).mono ?_
  rintro e w1 ⟨g, S', rfl, hg, hg1, hK, hs, hcp, hb⟩
  have H1 := H0.next hb
  have gg : w.heap.size + 1 + 1 + 1 ≤ g := by simpa using hg
  clear H0 I0 hb hg hn
  have x1 := H1.cell List.mem_cons_self (i := 1) rfl
  have f1 := H1.free _ List.mem_cons_self 1
  have y1 := H1.cell (List.mem_cons_of_mem _ (List.mem_cons_of_mem _ List.mem_cons_self)) (i := 1) rfl
  have H2 := HeldL.putI (i := 1) (x := .slice (some ⟨g, 0, none⟩) m m) (by omega) ne2 H1 (by simp)
  simp only [List.set_cons_succ, List.set_cons_zero] at H2
  have x2 := H2.cell List.mem_cons_self (i := 2) rfl
  have f2 := H2.free _ List.mem_cons_self 2
  have y2 := H2.cell (List.mem_cons_of_mem _ (List.mem_cons_of_mem _ List.mem_cons_self)) (i := 2) rfl
  have H3 := HeldL.putI (i := 2) (x := .int .i64 out) (by omega) ne2 H2 (by simp)
  simp only [List.set_cons_succ, List.set_cons_zero] at H3
  have x3 := H3.cell List.mem_cons_self (i := 3) rfl
  have f3 := H3.free _ List.mem_cons_self 3
  have y3 := H3.cell (List.mem_cons_of_mem _ (List.mem_cons_of_mem _ List.mem_cons_self)) (i := 3) rfl
  have H4 := HeldL.putI (i := 3) (x := .int .i64 pr) (by omega) ne2 H3 (by simp)
  simp only [List.set_cons_succ, List.set_cons_zero] at H4
  have x4 := H4.cell List.mem_cons_self (i := 4) rfl
  have f4 := H4.free _ List.mem_cons_self 4
  have y4 := H4.cell (List.mem_cons_of_mem _ (List.mem_cons_of_mem _ List.mem_cons_self)) (i := 4) rfl
  have H5 := HeldL.putI (i := 4) (x := .int .i64 pc) (by omega) ne2 H4 (by simp)
  simp only [List.set_cons_succ, List.set_cons_zero] at H5
  have o0 := H5.cell List.mem_cons_self (i := 0) rfl
  have o1 := H5.cell List.mem_cons_self (i := 1) rfl
  have o2 := H5.cell List.mem_cons_self (i := 2) rfl
  have o3 := H5.cell List.mem_cons_self (i := 3) rfl
  have o4 := H5.cell List.mem_cons_self (i := 4) rfl
  have HR := H5.sub (L' := [(w.heap.size + 1, [Value.int .i64 0, .slice none 0 0, .int .i64 0, .int .i64 0, .int .i64 0])]) (fun e he => by simp at he; subst he; simp)
  have r0 := HR.cell List.mem_cons_self (i := 0) rfl
  have r1 := HR.cell List.mem_cons_self (i := 1) rfl
  have r2 := HR.cell List.mem_cons_self (i := 2) rfl
  have r3 := HR.cell List.mem_cons_self (i := 3) rfl
  have r4 := HR.cell List.mem_cons_self (i := 4) rfl
  have fr := HR.free _ List.mem_cons_self
  dsimp only at x1 x2 x3 x4 f1 f2 f3 f4 y1 y2 y3 y4 o0 o1 o2 o3 o4 r0 r1 r2 r3 r4 fr
  obtain ⟨e0, e1, e2, e3, e4⟩ := own5c r0 r1 r2 r3 r4
  have bE := H5.below
  clear HR H1 H2 H3 H4
  go_wp2_with fail
  refine bodyPost_ret (v := .agg #[.int .i64 st, .slice (some ⟨g, 0, none⟩) m m, .int .i64 out, .int .i64 pr, .int .i64 pc]) (by simp [results, Try.results22, go_sem, e0, e1, e2, e3, e4]) rfl ⟨g, S', rfl, by omega, ?_, ?_, hs, hcp, ?_⟩
  · simpa [World.setCell] using hg1
  · exact FramesAt.set (G := w.heap.size + 1) (o := 0) (vs := [.int .i64 st, .slice (some ⟨g, 0, none⟩) m m, .int .i64 out, .int .i64 pr, .int .i64 pc]) (FramesAt.set (G := w.heap.size + 1 + 1) (o := 1) (vs := [.slice (some ⟨g, 0, none⟩) m m, .int .i64 out, .int .i64 pr, .int .i64 pc]) hK (by omega) (fun i hi => by have := hs i hi; omega)) (by omega) (fun i hi => by have := hs i hi; omega)
  · exact setAll_below (g := w.heap.size + 1) (Nat.le_succ _) [.int .i64 st, .slice (some ⟨g, 0, none⟩) m m, .int .i64 out, .int .i64 pr, .int .i64 pc] 0 _ bE
end Go.Proofs.Ytndedplmcjfgeaa
