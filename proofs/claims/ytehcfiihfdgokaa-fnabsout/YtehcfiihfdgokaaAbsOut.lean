/- AbsOut, the model's and the program's: they answer what the plain outB, outLo, outHi say; they make memory of their own alone. -/
import Derived.Test.YtehcfiihfdgokaaAbsHas
import Derived.Test.YtehcfiihfdgokaaStepI
namespace Go.Proofs.Ytehcfiihfdgokaa
open Go.ChangeShapes Go.WideShapes Go.ChangeAt Go.RowKit
set_option linter.unusedVariables false
def outB (o aa : Int) (on : Bool) (n : Nat) (lo hi : Nat → Int) (c d : Int) : Bool := decide (o = 12) && ((decide (0 ≤ aa) && decide (aa ≤ 3)) && (on && absOk on n lo hi c d))
def outLo (o aa : Int) (on : Bool) (n : Nat) (lo hi : Nat → Int) (c d : Int) : Int := if outB o aa on n lo hi c d = true then lo aa.toNat else 0
def outHi (o aa : Int) (on : Bool) (n : Nat) (lo hi : Nat → Int) (c d : Int) : Int := if outB o aa on n lo hi c d = true then hi aa.toNat else 0
theorem outOf_f {o aa : Int} {on : Bool} {n : Nat} {lo hi : Nat → Int} {c d : Int} (h : outB o aa on n lo hi c d = false) : Value.agg #[.bool (outB o aa on n lo hi c d), .int .i64 (outLo o aa on n lo hi c d), .int .i64 (outHi o aa on n lo hi c d)] = .agg #[.bool false, .int .i64 0, .int .i64 0] := by
  unfold outLo outHi
  rw [h]
  simp
theorem outOf_t {o aa : Int} {on : Bool} {n : Nat} {lo hi : Nat → Int} {c d : Int} (h : outB o aa on n lo hi c d = true) : Value.agg #[.bool (outB o aa on n lo hi c d), .int .i64 (outLo o aa on n lo hi c d), .int .i64 (outHi o aa on n lo hi c d)] = .agg #[.bool true, .int .i64 (lo aa.toNat), .int .i64 (hi aa.toNat)] := by
  unfold outLo outHi
  rw [h]
  simp
set_option maxRecDepth 10000 in
set_option maxHeartbeats 8000000 in
theorem absOutS (o dd aa bb rr ll hh tt : Int) (on : Bool) (a : Option Addr) (b off n cap : Nat) (lo hi : Nat → Int) (c d : Int) (w : World) (hC : BndsAt a b off n lo hi w) :
    Calls Try.prog 8 #[.agg #[.int .i64 o, .int .i64 dd, .int .i64 aa, .int .i64 bb, .int .i64 rr, .int .i64 ll, .int .i64 hh, .int .i64 tt], .agg #[.bool on, .slice a n cap, .int .i64 c, .int .i64 d]] w fun e w' => e = .returned (.agg #[.bool (outB o aa on n lo hi c d), .int .i64 (outLo o aa on n lo hi c d), .int .i64 (outHi o aa on n lo hi c d)]) ∧ Below w.heap.size w w' := by
  have H : HeldL w [(w.heap.size + 1 + 1, [Value.bool false, .int .i64 0, .int .i64 0]), (w.heap.size + 1, [Value.bool on, .slice a n cap, .int .i64 c, .int .i64 d]), (w.heap.size, [Value.int .i64 o, .int .i64 dd, .int .i64 aa, .int .i64 bb, .int .i64 rr, .int .i64 ll, .int .i64 hh, .int .i64 tt])] (((w.alloc (.cells #[.int .i64 o, .int .i64 dd, .int .i64 aa, .int .i64 bb, .int .i64 rr, .int .i64 ll, .int .i64 hh, .int .i64 tt] 24)).alloc (.cells #[.bool on, .slice a n cap, .int .i64 c, .int .i64 d] 29)).alloc (.cells #[.bool false, .int .i64 0, .int .i64 0] 33)) := by
    have e1 : w.heap.size + 1 = (w.alloc (.cells #[.int .i64 o, .int .i64 dd, .int .i64 aa, .int .i64 bb, .int .i64 rr, .int .i64 ll, .int .i64 hh, .int .i64 tt] 24)).heap.size := by simp
    have e2 : w.heap.size + 1 + 1 = ((w.alloc (.cells #[.int .i64 o, .int .i64 dd, .int .i64 aa, .int .i64 bb, .int .i64 rr, .int .i64 ll, .int .i64 hh, .int .i64 tt] 24)).alloc (.cells #[.bool on, .slice a n cap, .int .i64 c, .int .i64 d] 29)).heap.size := by simp
    rw [e2, e1]
    exact HeldL.newL (vs := [Value.bool false, .int .i64 0, .int .i64 0]) (HeldL.newL (vs := [Value.bool on, .slice a n cap, .int .i64 c, .int .i64 d]) (HeldL.newL (vs := [Value.int .i64 o, .int .i64 dd, .int .i64 aa, .int .i64 bb, .int .i64 rr, .int .i64 ll, .int .i64 hh, .int .i64 tt]) (HeldL.nil w)))
  obtain ⟨Lb, hLb⟩ : ∃ L, L = [(w.heap.size + 1 + 1, [Value.bool false, .int .i64 0, .int .i64 0]), (w.heap.size + 1, [Value.bool on, .slice a n cap, .int .i64 c, .int .i64 d]), (w.heap.size, [Value.int .i64 o, .int .i64 dd, .int .i64 aa, .int .i64 bb, .int .i64 rr, .int .i64 ll, .int .i64 hh, .int .i64 tt])] := ⟨_, rfl⟩
  have mR : (w.heap.size + 1 + 1, [Value.bool false, .int .i64 0, .int .i64 0]) ∈ Lb := by rw [hLb]; simp
  have mS : (w.heap.size + 1, [Value.bool on, .slice a n cap, .int .i64 c, .int .i64 d]) ∈ Lb := by rw [hLb]; simp
  have mI : (w.heap.size, [Value.int .i64 o, .int .i64 dd, .int .i64 aa, .int .i64 bb, .int .i64 rr, .int .i64 ll, .int .i64 hh, .int .i64 tt]) ∈ Lb := by rw [hLb]; simp
  rw [← hLb] at H
  clear hLb
  have I := hC.next H.below
  clear hC
  by_cases h12 : o = 12
  case neg =>
    go_enter Try.func8, Try.ntmps8
    have r0 := H.cell mR (i := 0) rfl
    have r1 := H.cell mR (i := 1) rfl
    have r2 := H.cell mR (i := 2) rfl
    have fr := H.free _ mR
    dsimp only at r0 r1 r2 fr
    obtain ⟨e0, e1, e2⟩ := own3 r0 r1 r2
    have bE := H.below
    go_wp2_with fail
    refine bodyPost_ret (v := .agg #[.bool false, .int .i64 0, .int .i64 0]) (by first | (simp [results, Try.results8, go_sem]; done) | simp [results, Try.results8, go_sem, e0, e1, e2]) rfl ⟨by rw [outOf_f (by simp [outB, h12])], ?_⟩
    first | exact bE | exact setAll_below (g := w.heap.size + 1 + 1) (by omega) [.bool false, .int .i64 0, .int .i64 0] 0 _ bE
  subst h12
  go_enter Try.func8, Try.ntmps8
  go_wp2_with fail
  refine (inS1 _ _ _ _).mono ?_
  rintro e w1 ⟨rfl, hw1⟩
  subst hw1
  cases g1 : (decide ((0 : Int) ≤ aa) && decide (aa ≤ 3))
  · have r0 := H.cell mR (i := 0) rfl
    have r1 := H.cell mR (i := 1) rfl
    have r2 := H.cell mR (i := 2) rfl
    have fr := H.free _ mR
    dsimp only at r0 r1 r2 fr
    obtain ⟨e0, e1, e2⟩ := own3 r0 r1 r2
    have bE := H.below
    go_wp2_with fail
    refine bodyPost_ret (v := .agg #[.bool false, .int .i64 0, .int .i64 0]) (by first | (simp [results, Try.results8, go_sem]; done) | simp [results, Try.results8, go_sem, e0, e1, e2]) rfl ⟨by rw [outOf_f (by simp only [outB, g1]; simp)], ?_⟩
    first | exact bE | exact setAll_below (g := w.heap.size + 1 + 1) (by omega) [.bool false, .int .i64 0, .int .i64 0] 0 _ bE
  have g1S : Hid ((decide ((0 : Int) ≤ aa) && decide (aa ≤ 3)) = true) := g1
  clear g1
  have c0 := H.cell mS (i := 0) rfl
  have c1 := H.cell mS (i := 1) rfl
  have c2 := H.cell mS (i := 2) rfl
  have c3 := H.cell mS (i := 3) rfl
  dsimp only at c0 c1 c2 c3
  go_wp2_with fail
  refine (absOkS _ _ _ _ _ _ _ _ _ _ _ I).mono ?_
  rintro e w2 ⟨rfl, hb⟩
  replace H := H.next hb
  replace I := I.next hb
  clear hb c0 c1 c2 c3
  cases g2 : absOk on n lo hi c d
  · have r0 := H.cell mR (i := 0) rfl
    have r1 := H.cell mR (i := 1) rfl
    have r2 := H.cell mR (i := 2) rfl
    have fr := H.free _ mR
    dsimp only at r0 r1 r2 fr
    obtain ⟨e0, e1, e2⟩ := own3 r0 r1 r2
    have bE := H.below
    go_wp2_with fail
    refine bodyPost_ret (v := .agg #[.bool false, .int .i64 0, .int .i64 0]) (by first | (simp [results, Try.results8, go_sem]; done) | simp [results, Try.results8, go_sem, e0, e1, e2]) rfl ⟨by rw [outOf_f (by simp only [outB, g2]; simp)], ?_⟩
    first | exact bE | exact setAll_below (g := w.heap.size + 1 + 1) (by omega) [.bool false, .int .i64 0, .int .i64 0] 0 _ bE
  cases on
  · have c0 := H.cell mS (i := 0) rfl
    dsimp only at c0
    have r0 := H.cell mR (i := 0) rfl
    have r1 := H.cell mR (i := 1) rfl
    have r2 := H.cell mR (i := 2) rfl
    have fr := H.free _ mR
    dsimp only at r0 r1 r2 fr
    obtain ⟨e0, e1, e2⟩ := own3 r0 r1 r2
    have bE := H.below
    go_wp2_with fail
    refine bodyPost_ret (v := .agg #[.bool false, .int .i64 0, .int .i64 0]) (by first | (simp [results, Try.results8, go_sem]; done) | simp [results, Try.results8, go_sem, e0, e1, e2]) rfl ⟨by rw [outOf_f (by simp [outB])], ?_⟩
    first | exact bE | exact setAll_below (g := w.heap.size + 1 + 1) (by omega) [.bool false, .int .i64 0, .int .i64 0] 0 _ bE
  obtain rfl : n = 4 := by simp [absOk] at g2; exact g2.1
  have e0 := I.at_ (by omega)
  subst e0
  have ha : 0 ≤ aa ∧ aa ≤ 3 := by have := g1S.out; simpa using this
  obtain ⟨k, rfl⟩ : ∃ k : Nat, aa = k := ⟨aa.toNat, by omega⟩
  have hk : k < 4 := by omega
  have hg : outB 12 (k : Int) true 4 lo hi c d = true := by simp only [outB, g2, g1S.out]; rfl
  clear g2 g1S
  have t1 : ((k : Int)).toNat = k := by omega
  have t2 : (0 : Int) ≤ (k : Int) := by omega
  have t3 : (k : Int) < 4 := by omega
  have d0 := I.lo k hk
  have d1 := I.hi k hk
  have c0 := H.cell mS (i := 0) rfl
  have c1 := H.cell mS (i := 1) rfl
  have c2 := H.cell mS (i := 2) rfl
  have c3 := H.cell mS (i := 3) rfl
  dsimp only at c0 c1 c2 c3
  have x2 := H.cell mI (i := 2) rfl
  dsimp only at x2
  have r0 := H.cell mR (i := 0) rfl
  have r1 := H.cell mR (i := 1) rfl
  have r2 := H.cell mR (i := 2) rfl
  have fr := H.free _ mR
  dsimp only at r0 r1 r2 fr
  obtain ⟨e0, e1, e2⟩ := own3 r0 r1 r2
  have bE := H.below
  go_wp2_with fail
  refine bodyPost_ret (v := .agg #[.bool true, .int .i64 (lo k), .int .i64 (hi k)]) (by first | (simp [results, Try.results8, go_sem]; done) | simp [results, Try.results8, go_sem, e0, e1, e2]) rfl ⟨by rw [outOf_t (by exact hg), Int.toNat_natCast], ?_⟩
  first | exact bE | exact setAll_below (g := w.heap.size + 1 + 1) (by omega) [.bool true, .int .i64 (lo k), .int .i64 (hi k)] 0 _ bE
set_option maxRecDepth 10000 in
set_option maxHeartbeats 8000000 in
theorem absOutI (o dd aa bb rr ll hh tt : Int) (on : Bool) (a : Option Addr) (b off n cap : Nat) (lo hi : Nat → Int) (c d : Int) (w : World) (hn : n ≤ 1048576) (hC : BndsAt a b off n lo hi w) :
    Calls Try.prog 7 #[.agg #[.int .i64 o, .int .i64 dd, .int .i64 aa, .int .i64 bb, .int .i64 rr, .int .i64 ll, .int .i64 hh, .int .i64 tt], .agg #[.bool on, .slice a n cap, .int .i64 c, .int .i64 d]] w fun e w' => e = .returned (.agg #[.bool (outB o aa on n lo hi c d), .int .i64 (outLo o aa on n lo hi c d), .int .i64 (outHi o aa on n lo hi c d)]) ∧ Below w.heap.size w w' := by
  have H : HeldL w [(w.heap.size + 1 + 1, [Value.bool false, .int .i64 0, .int .i64 0]), (w.heap.size + 1, [Value.bool on, .slice a n cap, .int .i64 c, .int .i64 d]), (w.heap.size, [Value.int .i64 o, .int .i64 dd, .int .i64 aa, .int .i64 bb, .int .i64 rr, .int .i64 ll, .int .i64 hh, .int .i64 tt])] (((w.alloc (.cells #[.int .i64 o, .int .i64 dd, .int .i64 aa, .int .i64 bb, .int .i64 rr, .int .i64 ll, .int .i64 hh, .int .i64 tt] 24)).alloc (.cells #[.bool on, .slice a n cap, .int .i64 c, .int .i64 d] 29)).alloc (.cells #[.bool false, .int .i64 0, .int .i64 0] 33)) := by
    have e1 : w.heap.size + 1 = (w.alloc (.cells #[.int .i64 o, .int .i64 dd, .int .i64 aa, .int .i64 bb, .int .i64 rr, .int .i64 ll, .int .i64 hh, .int .i64 tt] 24)).heap.size := by simp
    have e2 : w.heap.size + 1 + 1 = ((w.alloc (.cells #[.int .i64 o, .int .i64 dd, .int .i64 aa, .int .i64 bb, .int .i64 rr, .int .i64 ll, .int .i64 hh, .int .i64 tt] 24)).alloc (.cells #[.bool on, .slice a n cap, .int .i64 c, .int .i64 d] 29)).heap.size := by simp
    rw [e2, e1]
    exact HeldL.newL (vs := [Value.bool false, .int .i64 0, .int .i64 0]) (HeldL.newL (vs := [Value.bool on, .slice a n cap, .int .i64 c, .int .i64 d]) (HeldL.newL (vs := [Value.int .i64 o, .int .i64 dd, .int .i64 aa, .int .i64 bb, .int .i64 rr, .int .i64 ll, .int .i64 hh, .int .i64 tt]) (HeldL.nil w)))
  obtain ⟨Lb, hLb⟩ : ∃ L, L = [(w.heap.size + 1 + 1, [Value.bool false, .int .i64 0, .int .i64 0]), (w.heap.size + 1, [Value.bool on, .slice a n cap, .int .i64 c, .int .i64 d]), (w.heap.size, [Value.int .i64 o, .int .i64 dd, .int .i64 aa, .int .i64 bb, .int .i64 rr, .int .i64 ll, .int .i64 hh, .int .i64 tt])] := ⟨_, rfl⟩
  have mR : (w.heap.size + 1 + 1, [Value.bool false, .int .i64 0, .int .i64 0]) ∈ Lb := by rw [hLb]; simp
  have mS : (w.heap.size + 1, [Value.bool on, .slice a n cap, .int .i64 c, .int .i64 d]) ∈ Lb := by rw [hLb]; simp
  have mI : (w.heap.size, [Value.int .i64 o, .int .i64 dd, .int .i64 aa, .int .i64 bb, .int .i64 rr, .int .i64 ll, .int .i64 hh, .int .i64 tt]) ∈ Lb := by rw [hLb]; simp
  rw [← hLb] at H
  clear hLb
  have I := hC.next H.below
  clear hC
  by_cases h12 : o = 12
  case neg =>
    go_enter Try.func7, Try.ntmps7
    have r0 := H.cell mR (i := 0) rfl
    have r1 := H.cell mR (i := 1) rfl
    have r2 := H.cell mR (i := 2) rfl
    have fr := H.free _ mR
    dsimp only at r0 r1 r2 fr
    obtain ⟨e0, e1, e2⟩ := own3 r0 r1 r2
    have bE := H.below
    go_wp2_with fail
    refine bodyPost_ret (v := .agg #[.bool false, .int .i64 0, .int .i64 0]) (by first | (simp [results, Try.results7, go_sem]; done) | simp [results, Try.results7, go_sem, e0, e1, e2]) rfl ⟨by rw [outOf_f (by simp [outB, h12])], ?_⟩
    first | exact bE | exact setAll_below (g := w.heap.size + 1 + 1) (by omega) [.bool false, .int .i64 0, .int .i64 0] 0 _ bE
  subst h12
  go_enter Try.func7, Try.ntmps7
  go_wp2_with fail
  refine (areVars1 _ _ aa _ (by simp [go_sem])).mono ?_
  rintro e w1 ⟨rfl, hw1⟩
  subst hw1
  have kb : Below (((w.alloc (.cells #[.int .i64 12, .int .i64 dd, .int .i64 aa, .int .i64 bb, .int .i64 rr, .int .i64 ll, .int .i64 hh, .int .i64 tt] 24)).alloc (.cells #[.bool on, .slice a n cap, .int .i64 c, .int .i64 d] 29)).alloc (.cells #[.bool false, .int .i64 0, .int .i64 0] 33)).heap.size (((w.alloc (.cells #[.int .i64 12, .int .i64 dd, .int .i64 aa, .int .i64 bb, .int .i64 rr, .int .i64 ll, .int .i64 hh, .int .i64 tt] 24)).alloc (.cells #[.bool on, .slice a n cap, .int .i64 c, .int .i64 d] 29)).alloc (.cells #[.bool false, .int .i64 0, .int .i64 0] 33)) ((((w.alloc (.cells #[.int .i64 12, .int .i64 dd, .int .i64 aa, .int .i64 bb, .int .i64 rr, .int .i64 ll, .int .i64 hh, .int .i64 tt] 24)).alloc (.cells #[.bool on, .slice a n cap, .int .i64 c, .int .i64 d] 29)).alloc (.cells #[.bool false, .int .i64 0, .int .i64 0] 33)).alloc (.cells #[.int .i64 aa] 3)) := (Below.refl _ _).alloc (Nat.le_refl _) _
  replace H := H.next kb
  replace I := I.next kb
  clear kb
  rw [show inB aa 0 3 = (decide ((0 : Int) ≤ aa) && decide (aa ≤ 3)) from rfl]
  cases g1 : (decide ((0 : Int) ≤ aa) && decide (aa ≤ 3))
  · have r0 := H.cell mR (i := 0) rfl
    have r1 := H.cell mR (i := 1) rfl
    have r2 := H.cell mR (i := 2) rfl
    have fr := H.free _ mR
    dsimp only at r0 r1 r2 fr
    obtain ⟨e0, e1, e2⟩ := own3 r0 r1 r2
    have bE := H.below
    go_wp2_with fail
    refine bodyPost_ret (v := .agg #[.bool false, .int .i64 0, .int .i64 0]) (by first | (simp [results, Try.results7, go_sem]; done) | simp [results, Try.results7, go_sem, e0, e1, e2]) rfl ⟨by rw [outOf_f (by simp only [outB, g1]; simp)], ?_⟩
    first | exact bE | exact setAll_below (g := w.heap.size + 1 + 1) (by omega) [.bool false, .int .i64 0, .int .i64 0] 0 _ bE
  have g1S : Hid ((decide ((0 : Int) ≤ aa) && decide (aa ≤ 3)) = true) := g1
  clear g1
  have c0 := H.cell mS (i := 0) rfl
  have c1 := H.cell mS (i := 1) rfl
  have c2 := H.cell mS (i := 2) rfl
  have c3 := H.cell mS (i := 3) rfl
  dsimp only at c0 c1 c2 c3
  go_wp2_with fail
  refine (comesI _ _ _ _ _ _ _ _ _ _ _ hn I).mono ?_
  rintro e w2 ⟨rfl, hb⟩
  replace H := H.next hb
  replace I := I.next hb
  clear hb c0 c1 c2 c3
  cases g2 : absOk on n lo hi c d
  · have e9 : (on && false) = false := by simp
    rw [e9]
    have r0 := H.cell mR (i := 0) rfl
    have r1 := H.cell mR (i := 1) rfl
    have r2 := H.cell mR (i := 2) rfl
    have fr := H.free _ mR
    dsimp only at r0 r1 r2 fr
    obtain ⟨e0, e1, e2⟩ := own3 r0 r1 r2
    have bE := H.below
    go_wp2_with fail
    refine bodyPost_ret (v := .agg #[.bool false, .int .i64 0, .int .i64 0]) (by first | (simp [results, Try.results7, go_sem]; done) | simp [results, Try.results7, go_sem, e0, e1, e2]) rfl ⟨by rw [outOf_f (by simp only [outB, g2]; simp)], ?_⟩
    first | exact bE | exact setAll_below (g := w.heap.size + 1 + 1) (by omega) [.bool false, .int .i64 0, .int .i64 0] 0 _ bE
  rw [Bool.and_true]
  cases on
  · have c0 := H.cell mS (i := 0) rfl
    dsimp only at c0
    have r0 := H.cell mR (i := 0) rfl
    have r1 := H.cell mR (i := 1) rfl
    have r2 := H.cell mR (i := 2) rfl
    have fr := H.free _ mR
    dsimp only at r0 r1 r2 fr
    obtain ⟨e0, e1, e2⟩ := own3 r0 r1 r2
    have bE := H.below
    go_wp2_with fail
    refine bodyPost_ret (v := .agg #[.bool false, .int .i64 0, .int .i64 0]) (by first | (simp [results, Try.results7, go_sem]; done) | simp [results, Try.results7, go_sem, e0, e1, e2]) rfl ⟨by rw [outOf_f (by simp [outB])], ?_⟩
    first | exact bE | exact setAll_below (g := w.heap.size + 1 + 1) (by omega) [.bool false, .int .i64 0, .int .i64 0] 0 _ bE
  obtain rfl : n = 4 := by simp [absOk] at g2; exact g2.1
  have e0 := I.at_ (by omega)
  subst e0
  have ha : 0 ≤ aa ∧ aa ≤ 3 := by have := g1S.out; simpa using this
  obtain ⟨k, rfl⟩ : ∃ k : Nat, aa = k := ⟨aa.toNat, by omega⟩
  have hk : k < 4 := by omega
  have hg : outB 12 (k : Int) true 4 lo hi c d = true := by simp only [outB, g2, g1S.out]; rfl
  clear g2 g1S
  have t1 : ((k : Int)).toNat = k := by omega
  have t2 : (0 : Int) ≤ (k : Int) := by omega
  have t3 : (k : Int) < 4 := by omega
  have d0 := I.lo k hk
  have d1 := I.hi k hk
  have c0 := H.cell mS (i := 0) rfl
  have c1 := H.cell mS (i := 1) rfl
  have c2 := H.cell mS (i := 2) rfl
  have c3 := H.cell mS (i := 3) rfl
  dsimp only at c0 c1 c2 c3
  have x2 := H.cell mI (i := 2) rfl
  dsimp only at x2
  have r0 := H.cell mR (i := 0) rfl
  have r1 := H.cell mR (i := 1) rfl
  have r2 := H.cell mR (i := 2) rfl
  have fr := H.free _ mR
  dsimp only at r0 r1 r2 fr
  obtain ⟨e0, e1, e2⟩ := own3 r0 r1 r2
  have bE := H.below
  go_wp2_with fail
  refine bodyPost_ret (v := .agg #[.bool true, .int .i64 (lo k), .int .i64 (hi k)]) (by first | (simp [results, Try.results7, go_sem]; done) | simp [results, Try.results7, go_sem, e0, e1, e2]) rfl ⟨by rw [outOf_t (by exact hg), Int.toNat_natCast], ?_⟩
  first | exact bE | exact setAll_below (g := w.heap.size + 1 + 1) (by omega) [.bool true, .int .i64 (lo k), .int .i64 (hi k)] 0 _ bE
end Go.Proofs.Ytehcfiihfdgokaa
