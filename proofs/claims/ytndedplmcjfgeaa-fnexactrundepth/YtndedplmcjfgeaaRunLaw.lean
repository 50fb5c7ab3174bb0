/- Copies of programs and runs, as values in a region; how deep runs are. -/
import Derived.Test.YtndedplmcjfgeaaRunOkS
import Derived.Test.YtndedplmcjfgeaaRunOkJ
import Derived.Test.YtndedplmcjfgeaaRunEq
import Derived.Test.YtndedplmcjfgeaaPrgEq
import Derived.Test.YtndedplmcjfgeaaPrgTo2
namespace Go.Proofs.Ytndedplmcjfgeaa
open Go.ChangeShapes Go.WideShapes Go.ChangeAt Go.RowKit

def depthV (P : Nat → Proc) (m : Nat) (st out pr pc : Int) (q : Nat) (F : Nat → Frm) : Int := if runOk P m st out pr pc q F then q else 0
def PrgV (P : Nat → Proc) (m : Nat) (v : Value) (W : World) : Prop := ∃ (g : Nat) (S : Nat → Spot), v = .agg #[.slice (some ⟨g, 0, none⟩) m m] ∧ g < W.heap.size ∧ ProcsAt (some ⟨g, 0, none⟩) g 0 m P S W ∧ Copy S P m
theorem PrgV.next {P : Nat → Proc} {m : Nat} {v : Value} {W W' : World} (h : PrgV P m v W) (hb : Below W.heap.size W W') : PrgV P m v W' := by
  obtain ⟨g, S, e, h1, h2, h3⟩ := h
  exact ⟨g, S, e, Nat.lt_of_lt_of_le h1 hb.size, h2.next hb, h3⟩
def RunV (st out pr pc : Int) (q : Nat) (F : Nat → Frm) (v : Value) (W : World) : Prop := ∃ (g : Nat) (S : Nat → FSpot), v = .agg #[.int .i64 st, .slice (some ⟨g, 0, none⟩) q q, .int .i64 out, .int .i64 pr, .int .i64 pc] ∧ g < W.heap.size ∧ FramesAt (some ⟨g, 0, none⟩) g 0 q F S W ∧ FCopy S F q
theorem RunV.next {st out pr pc : Int} {q : Nat} {F : Nat → Frm} {v : Value} {W W' : World} (h : RunV st out pr pc q F v W) (hb : Below W.heap.size W W') : RunV st out pr pc q F v W' := by
  obtain ⟨g, S, e, h1, h2, h3⟩ := h
  exact ⟨g, S, e, Nat.lt_of_lt_of_le h1 hb.size, h2.next hb, h3⟩
def TB (_ : Nat) (W W' : World) : Prop := Below W.heap.size W W'
/-- What is held, and that nothing older than V has turned. -/
def HB (w V : World) (L : List (Nat × List Value)) (W : World) : Prop := HeldL w L W ∧ Below V.heap.size V W
theorem HB.next {w V : World} {L : List (Nat × List Value)} {W W' : World} (hb : Below W.heap.size W W') (h : HB w V L W) : HB w V L W' := ⟨h.1.next hb, below_tr h.2 hb⟩
theorem HB.cell {w V : World} {L : List (Nat × List Value)} {W : World} (h : HB w V L W) {e : Nat × List Value} (he : e ∈ L) {i : Nat} {v : Value} (hv : e.2[i]? = some v) : W.cell? ⟨e.1, i, none⟩ = some v := h.1.cell he hv
theorem HB.below {w V : World} {L : List (Nat × List Value)} {W : World} (h : HB w V L W) : Below w.heap.size w W := h.1.below
theorem HB.beh {w V : World} {L : List (Nat × List Value)} {W : World} (h : HB w V L W) : Below V.heap.size V W := h.2
theorem HB.drew {w V : World} {L : List (Nat × List Value)} {W : World} (h : HB w V L W) : HB w V L W.drew := h.next (Below.refl _ W).drew
theorem szPrg2 (a : Option Addr) (b off m cap : Nat) (P : Nat → Proc) (S : Nat → Spot) (w : World) (hm : m ≤ maxLen) (hP : ProcsAt a b off m P S w) (hn : ∀ i, i < m → (P i).n ≤ maxLen) :
    Calls Try.prog 10 #[.agg #[.slice a m cap], .int .i64 1048576] w fun e w' => ∃ r : Int, e = .returned (.int .i64 r) ∧ (r = -1 ∨ (m + sizeTo P m ≤ 1048576 ∧ 0 ≤ r ∧ r ≤ 1048576)) ∧ Below w.heap.size w w' := by
  have b0 : Below w.heap.size w (w.alloc (.cells #[.slice a m cap] 24)) := (Below.refl w.heap.size w).alloc (Nat.le_refl _) _
  have hP0 := hP.next b0
  go_enter Try.func10, Try.ntmps10
  go_wp2_with fail
  refine (szProcs _ _ _ _ _ _ _ _ _ (by omega) hm hP0 hn).mono ?_
  rintro e w1 ⟨r, rfl, hr, hb⟩
  have b1 := below_tr b0 hb
  clear hP hP0 hn
  rcases hr with rfl | ⟨hr, h0⟩
  · go_wp2_with fail
    go_ret
    exact ⟨_, rfl, .inl rfl, b1⟩
  · have hrS : Hid (r = 1048576 - m - sizeTo P m) := hr
    clear hr
    have hr' : ¬ r < 0 := by omega
    go_wp2_with fail
    go_ret
    exact ⟨_, rfl, .inr ⟨by have := hrS.out; omega, h0, by have := hrS.out; omega⟩, b1⟩
set_option maxHeartbeats 4000000 in
theorem depthS (a : Option Addr) (b off m cap : Nat) (P : Nat → Proc) (S : Nat → Spot) (st out pr pc : Int) (fa : Option Addr) (fb fo q fcap : Nat) (F : Nat → Frm) (R : Nat → FSpot) (w : World) (hm : m ≤ 1048576) (hnn : ∀ i, i < m → (P i).n ≤ 1048576) (hq : q ≤ 1048576) (hn : ∀ i, i < q → (F i).nv ≤ 1048576 ∧ (F i).nc ≤ 1048576) (hP : ProcsAt a b off m P S w) (hF : FramesAt fa fb fo q F R w) :
    Calls Try.prog 25 #[.agg #[.slice a m cap], .agg #[.int .i64 st, .slice fa q fcap, .int .i64 out, .int .i64 pr, .int .i64 pc]] w fun e w' => e = .returned (.int .i64 (depthV P m st out pr pc q F)) ∧ Below w.heap.size w w' := by
  have H0 : HeldL w [(w.heap.size + 1, [Value.int .i64 st, .slice fa q fcap, .int .i64 out, .int .i64 pr, .int .i64 pc]), (w.heap.size, [Value.slice a m cap])] ((w.alloc (.cells #[.slice a m cap] 29)).alloc (.cells #[.int .i64 st, .slice fa q fcap, .int .i64 out, .int .i64 pr, .int .i64 pc] 47)) := by
    have e1 : w.heap.size + 1 = (w.alloc (.cells #[.slice a m cap] 29)).heap.size := by simp
    rw [e1]
    exact HeldL.newL (vs := [Value.int .i64 st, .slice fa q fcap, .int .i64 out, .int .i64 pr, .int .i64 pc]) (HeldL.newL (vs := [Value.slice a m cap]) (HeldL.nil w))
  obtain ⟨Lb, hLb⟩ : ∃ L, L = [(w.heap.size + 1, [Value.int .i64 st, .slice fa q fcap, .int .i64 out, .int .i64 pr, .int .i64 pc]), (w.heap.size, [Value.slice a m cap])] := ⟨_, rfl⟩
  have mR : (w.heap.size + 1, [Value.int .i64 st, .slice fa q fcap, .int .i64 out, .int .i64 pr, .int .i64 pc]) ∈ Lb := by rw [hLb]; simp
  have mP : (w.heap.size, [Value.slice a m cap]) ∈ Lb := by rw [hLb]; simp
  rw [← hLb] at H0
  clear hLb
  go_enter Try.func25, Try.ntmps25
  go_wp2_with fail
  refine (runOkS _ _ _ _ _ _ _ _ _ _ _ _ _ _ _ _ _ _ _ hm hnn hq hn (hP.next H0.below) (hF.next H0.below)).mono ?_
  rintro e w1 ⟨rfl, hb⟩
  have H1 := H0.next hb
  clear H0 hb
  cases g : runOk P m st out pr pc q F
  · go_wp2_with fail
    go_ret
    exact ⟨ret_int (by simp [depthV, g]), H1.below⟩
  · have r1' := H1.cell mR (i := 1) rfl
    dsimp only at r1'
    go_wp2_with fail
    go_ret
    exact ⟨ret_int (by simp [depthV, g]), H1.below⟩
set_option maxHeartbeats 4000000 in
theorem depthI (a : Option Addr) (b off m cap : Nat) (P : Nat → Proc) (S : Nat → Spot) (st out pr pc : Int) (fa : Option Addr) (fb fo q fcap : Nat) (F : Nat → Frm) (R : Nat → FSpot) (w : World) (hm : m ≤ 1048576) (hnn : ∀ i, i < m → (P i).n ≤ 1048576) (hq : q ≤ 1048576) (hn : ∀ i, i < q → (F i).nv ≤ 1048576 ∧ (F i).nc ≤ 1048576) (hP : ProcsAt a b off m P S w) (hF : FramesAt fa fb fo q F R w) :
    Calls Try.prog 26 #[.agg #[.slice a m cap], .agg #[.int .i64 st, .slice fa q fcap, .int .i64 out, .int .i64 pr, .int .i64 pc]] w fun e w' => e = .returned (.int .i64 (depthV P m st out pr pc q F)) ∧ Below w.heap.size w w' := by
  have H0 : HeldL w [(w.heap.size + 1, [Value.int .i64 st, .slice fa q fcap, .int .i64 out, .int .i64 pr, .int .i64 pc]), (w.heap.size, [Value.slice a m cap])] ((w.alloc (.cells #[.slice a m cap] 29)).alloc (.cells #[.int .i64 st, .slice fa q fcap, .int .i64 out, .int .i64 pr, .int .i64 pc] 47)) := by
    have e1 : w.heap.size + 1 = (w.alloc (.cells #[.slice a m cap] 29)).heap.size := by simp
    rw [e1]
    exact HeldL.newL (vs := [Value.int .i64 st, .slice fa q fcap, .int .i64 out, .int .i64 pr, .int .i64 pc]) (HeldL.newL (vs := [Value.slice a m cap]) (HeldL.nil w))
  obtain ⟨Lb, hLb⟩ : ∃ L, L = [(w.heap.size + 1, [Value.int .i64 st, .slice fa q fcap, .int .i64 out, .int .i64 pr, .int .i64 pc]), (w.heap.size, [Value.slice a m cap])] := ⟨_, rfl⟩
  have mR : (w.heap.size + 1, [Value.int .i64 st, .slice fa q fcap, .int .i64 out, .int .i64 pr, .int .i64 pc]) ∈ Lb := by rw [hLb]; simp
  have mP : (w.heap.size, [Value.slice a m cap]) ∈ Lb := by rw [hLb]; simp
  rw [← hLb] at H0
  clear hLb
  go_enter Try.func26, Try.ntmps26
  go_wp2_with fail
  refine (runOkI _ _ _ _ _ _ _ _ _ _ _ _ _ _ _ _ _ _ _ hm hnn hq hn (hP.next H0.below) (hF.next H0.below)).mono ?_
  rintro e w1 ⟨rfl, hb⟩
  have H1 := H0.next hb
  clear H0 hb
  cases g : runOk P m st out pr pc q F
  · go_wp2_with fail
    go_ret
    exact ⟨ret_int (by simp [depthV, g]), H1.below⟩
  · have r1' := H1.cell mR (i := 1) rfl
    dsimp only at r1'
    go_wp2_with fail
    go_ret
    exact ⟨ret_int (by simp [depthV, g]), H1.below⟩
end Go.Proofs.Ytndedplmcjfgeaa
