/- The model's calls of a procedure: l6Put, l6Calls, GrfCalls. -/
import Derived.Test.YtndedplmcjfgeaaGrfP
import Derived.Test.YtndedplmcjfgeaaOwn
import Derived.Test.YtndedplmcjfgeaaNextS
import Derived.Test.YtndedplmcjfgeaaPrgOkS
import Derived.Test.YtndedplmcjfgeaaGrfO
namespace Go.Proofs.Ytndedplmcjfgeaa
open Go.ChangeShapes Go.WideShapes Go.ChangeAt Go.RowKit

theorem drop_get {zs : List Int} {k : Nat} (h : k < zs.length) : zs.drop k = zs.getD k 0 :: zs.drop (k + 1) := by
  rw [List.drop_eq_getElem_cons h]
  simp [h]
theorem take_get {zs : List Int} {k : Nat} (h : k < zs.length) : zs.take (k + 1) = zs.take k ++ [zs.getD k 0] := by
  rw [List.take_succ_eq_append_getElem h]
  simp [h]
/-- What l6Put has made of a list's first k members. -/
def PutSt (x : Int) (zs : List Int) (k : Nat) (d : Bool) (ys : List Int) : Prop :=
  ys.length ≤ k + 1 ∧ if d = true then putL x zs = ys ++ zs.drop k else ys = zs.take k ∧ putL x zs = zs.take k ++ putL x (zs.drop k)
theorem PutSt.on {x : Int} {zs : List Int} {k : Nat} {ys : List Int} (h : PutSt x zs k true ys) (hk : k < zs.length) : PutSt x zs (k + 1) true (ys ++ [zs.getD k 0]) := by
  obtain ⟨h1, h2⟩ := h
  refine ⟨by simp; omega, ?_⟩
  rw [if_pos rfl] at h2 ⊢
  rw [h2, drop_get hk]; simp
theorem PutSt.less {x : Int} {zs : List Int} {k : Nat} {ys : List Int} (h : PutSt x zs k false ys) (hk : k < zs.length) (hx : zs.getD k 0 < x) : PutSt x zs (k + 1) false (ys ++ [zs.getD k 0]) := by
  obtain ⟨h1, h2⟩ := h
  refine ⟨by simp; omega, ?_⟩
  rw [if_neg (by simp)] at h2 ⊢
  obtain ⟨e1, e2⟩ := h2
  subst e1
  refine ⟨(take_get hk).symm, ?_⟩
  have e : putL x (zs.getD k 0 :: zs.drop (k + 1)) = zs.getD k 0 :: putL x (zs.drop (k + 1)) := by
    rw [putL, if_neg (by omega), if_neg (by omega)]
  rw [e2, drop_get hk, take_get hk, e, List.append_assoc]
  rfl
theorem PutSt.same {x : Int} {zs : List Int} {k : Nat} {ys : List Int} (h : PutSt x zs k false ys) (hk : k < zs.length) (hx : zs.getD k 0 = x) : PutSt x zs (k + 1) true (ys ++ [zs.getD k 0]) := by
  obtain ⟨h1, h2⟩ := h
  refine ⟨by simp; omega, ?_⟩
  rw [if_neg (by simp)] at h2
  rw [if_pos rfl]
  obtain ⟨e1, e2⟩ := h2
  subst e1
  rw [e2, drop_get hk]
  unfold putL
  rw [if_neg (by omega), if_pos hx]
  simp
theorem PutSt.more {x : Int} {zs : List Int} {k : Nat} {ys : List Int} (h : PutSt x zs k false ys) (hk : k < zs.length) (hx : x < zs.getD k 0) : PutSt x zs (k + 1) true (ys ++ [x] ++ [zs.getD k 0]) := by
  obtain ⟨h1, h2⟩ := h
  rw [if_neg (by simp)] at h2
  obtain ⟨e1, e2⟩ := h2
  subst e1
  refine ⟨by simp; omega, ?_⟩
  rw [if_pos rfl, e2, drop_get hk]
  unfold putL
  rw [if_pos hx]
  simp
theorem PutSt.endOn {x : Int} {zs ys : List Int} (h : PutSt x zs zs.length true ys) : ys = putL x zs := by
  obtain ⟨_, h2⟩ := h
  rw [if_pos rfl] at h2
  rw [h2]; simp
theorem PutSt.endOff {x : Int} {zs ys : List Int} (h : PutSt x zs zs.length false ys) : ys ++ [x] = putL x zs := by
  obtain ⟨_, h2⟩ := h
  rw [if_neg (by simp)] at h2
  obtain ⟨e1, e2⟩ := h2
  subst e1
  rw [e2]; simp [putL]

set_option maxRecDepth 10000 in
set_option maxHeartbeats 4000000 in
theorem putS (a : Option Addr) (cap B g n : Nat) (zs : List Int) (x : Int) (w : World) (hlen : zs.length = n) (hn : n ≤ 1000) (ha : LstAt B g a zs w) :
    Calls Try.prog 81 #[.slice a n cap, .int .i64 x] w fun e w' => ∃ v, e = .returned v ∧ Owns w.heap.size 3 v (putL x zs) w' ∧ Below w.heap.size w w' := by
  obtain ⟨i0, hi, hz0, hz1, hz2⟩ := info_parts infoIntO
  have hgw : 0 < zs.length → g < w.heap.size := fun h => (ha.lo h).2
  go_enter Try.func81, Try.ntmps81
  go_wp2_with fail
  have own0 : Owns w.heap.size 3 (.slice (some ⟨w.heap.size, 0, none⟩) 0 0) [] (w.alloc (.cells #[] 3)) := Owns.built _ _
  have b0 : Below w.heap.size w (w.alloc (.cells #[] 3)) := (Below.refl _ _).alloc (Nat.le_refl _) _
  have s0 : PutSt x zs 0 false [] := ⟨by simp, by rw [if_neg (by simp)]; simp⟩
  go_loopw [5, 6, 7] (fun v q i W => ∃ (k : Nat) (d : Bool) (ys : List Int), k ≤ n ∧ i = .int .i64 k ∧ q = .bool d ∧ PutSt x zs k d ys ∧ Owns w.heap.size 3 v ys W ∧ Below w.heap.size w W) (fun _ _ i _ => n - (intOf i).toNat)
  case atStart => exact ⟨0, false, [], Nat.zero_le _, rfl, rfl, s0, own0, b0⟩
  case round =>
    obtain ⟨k, d, ys, hk, rfl, rfl, st, own, hB⟩ := hrel
    clear own0 b0 s0
    have hyl := st.1
    by_cases hlt : k < n
    · have hk' : k < zs.length := by omega
      have ha' := ha.next hB
      have h0 : 0 < zs.length := by omega
      have e1 := ha'.at_ h0
      have c1 := ha'.cell k (by omega)
      have hgl := (ha'.lo h0).2
      have hgB := hgw h0
      have t1 : ((k : Int)).toNat = k := by omega
      have t2 : (0 : Int) ≤ (k : Int) := by omega
      have t3 : (k : Int) < (n : Int) := by omega
      have hs := hB.size
      subst e1
      clear ha ha'
      obtain ⟨y, hy⟩ : ∃ y, y = zs.getD k 0 := ⟨_, rfl⟩
      have hyS : Hid (zs.getD k 0 = y) := hy.symm
      rw [← hy] at c1
      clear hy
      cases d
      · rcases Int.lt_trichotomy x y with h | h | h
        · have h8 : ¬ y = x := by omega
          have st' : PutSt x zs (k + 1) true (ys ++ [x] ++ [y]) := by have := st.more hk' (by rw [hyS.out]; exact h); rwa [hyS.out] at this
          have O0 := own.alloc (.cells #[.int .i64 x] 3)
          have B0 := hB.alloc hs (.cells #[.int .i64 x] 3)
          go_wp2_with (at_builtin; refine wpList_append_own _ rfl (.tmp 25) (.tmp 27) 55 rfl w.heap.size 3 i0 (.int .i64 0) 1 8 Try.underlying55 hi hz0 hz1 hz2 rfl (by decide) _ _ _ rfl O0 ⟨wr.heap.size, 0, none⟩ 1 1 [.int .i64 x] rfl rfl (one_cells (by simp)) (by simp [Value.oneCell']) (by simp [maxLen]; omega) (by (try simp only [List.length_append, List.length_cons, List.length_nil]); omega) (by simp; omega) ?_)
          intro v1 w1 o1 g1 n1
          have O1 : Owns w.heap.size 3 v1 (ys ++ [x]) w1 := by unfold Owns; simpa using o1
          have G1 := O0.grow (by simp; omega) g1
          have B1 := B0.trans G1
          have hs1 := B1.size
          have c1' : w1.cell? ⟨g, k, none⟩ = some (.int .i64 y) := g1.cell ((World.cell?_alloc_lt _ _ _ hgl).trans c1) (fun e => by have := (World.ownsRow.lt own g e.symm).1; omega)
          clear o1 g1 n1 O0 B0 own hB c1
          have O2 := O1.alloc (.cells #[.int .i64 y] 3)
          have B2 := B1.alloc hs1 (.cells #[.int .i64 y] 3)
          go_wp2_with (at_builtin; refine wpList_append_own _ rfl (.tmp 35) (.tmp 40) 55 rfl w.heap.size 3 i0 (.int .i64 0) 1 8 Try.underlying55 hi hz0 hz1 hz2 rfl (by decide) _ _ _ rfl O2 ⟨w1.heap.size, 0, none⟩ 1 1 [.int .i64 y] rfl rfl (one_cells (by simp)) (by simp [Value.oneCell']) (by simp [maxLen]; omega) (by (try simp only [List.length_append, List.length_cons, List.length_nil]); omega) (by simp; omega) ?_)
          intro v3 w3 o3 g3 n3
          have O3 : Owns w.heap.size 3 v3 (ys ++ [x] ++ [y]) w3 := by unfold Owns; simpa using o3
          have B3 := B2.trans (O2.grow (by simp; omega) g3)
          clear o3 g3 n3 O2 B2 O1 B1 c1'
          go_wp2_with fail
          go_roundw
          case measure => simp [intOf]; omega
          exact ⟨k + 1, true, _, by omega, by go_num, rfl, st', O3, B3⟩
        · have st' : PutSt x zs (k + 1) true (ys ++ [y]) := by have := st.same hk' (by rw [hyS.out]; exact h.symm); rwa [hyS.out] at this
          subst h
          have O0 := own.alloc (.cells #[.int .i64 x] 3)
          have B0 := hB.alloc hs (.cells #[.int .i64 x] 3)
          go_wp2_with (at_builtin; refine wpList_append_own _ rfl (.tmp 35) (.tmp 40) 55 rfl w.heap.size 3 i0 (.int .i64 0) 1 8 Try.underlying55 hi hz0 hz1 hz2 rfl (by decide) _ _ _ rfl O0 ⟨wr.heap.size, 0, none⟩ 1 1 [.int .i64 x] rfl rfl (one_cells (by simp)) (by simp [Value.oneCell']) (by simp [maxLen]; omega) (by (try simp only [List.length_append, List.length_cons, List.length_nil]); omega) (by simp; omega) ?_)
          intro v1 w1 o1 g1 n1
          have O1 : Owns w.heap.size 3 v1 (ys ++ [x]) w1 := by unfold Owns; simpa using o1
          have B1 := B0.trans (O0.grow (by simp; omega) g1)
          clear o1 g1 n1 O0 B0 own hB c1
          go_wp2_with fail
          go_roundw
          case measure => simp [intOf]; omega
          exact ⟨k + 1, true, _, by omega, by go_num, rfl, st', O1, B1⟩
        · have h8 : ¬ y = x := by omega
          have h7 : ¬ x < y := by omega
          have st' : PutSt x zs (k + 1) false (ys ++ [y]) := by have := st.less hk' (by rw [hyS.out]; exact h); rwa [hyS.out] at this
          have O0 := own.alloc (.cells #[.int .i64 y] 3)
          have B0 := hB.alloc hs (.cells #[.int .i64 y] 3)
          go_wp2_with (at_builtin; refine wpList_append_own _ rfl (.tmp 35) (.tmp 40) 55 rfl w.heap.size 3 i0 (.int .i64 0) 1 8 Try.underlying55 hi hz0 hz1 hz2 rfl (by decide) _ _ _ rfl O0 ⟨wr.heap.size, 0, none⟩ 1 1 [.int .i64 y] rfl rfl (one_cells (by simp)) (by simp [Value.oneCell']) (by simp [maxLen]; omega) (by (try simp only [List.length_append, List.length_cons, List.length_nil]); omega) (by simp; omega) ?_)
          intro v1 w1 o1 g1 n1
          have O1 : Owns w.heap.size 3 v1 (ys ++ [y]) w1 := by unfold Owns; simpa using o1
          have B1 := B0.trans (O0.grow (by simp; omega) g1)
          clear o1 g1 n1 O0 B0 own hB c1
          go_wp2_with fail
          go_roundw
          case measure => simp [intOf]; omega
          exact ⟨k + 1, false, _, by omega, by go_num, rfl, st', O1, B1⟩
      · have st' : PutSt x zs (k + 1) true (ys ++ [y]) := by have := st.on hk'; rwa [hyS.out] at this
        by_cases h8 : y = x
        · have h9 := h8.symm
          clear h8
          subst h9
          have O0 := own.alloc (.cells #[.int .i64 x] 3)
          have B0 := hB.alloc hs (.cells #[.int .i64 x] 3)
          go_wp2_with (at_builtin; refine wpList_append_own _ rfl (.tmp 35) (.tmp 40) 55 rfl w.heap.size 3 i0 (.int .i64 0) 1 8 Try.underlying55 hi hz0 hz1 hz2 rfl (by decide) _ _ _ rfl O0 ⟨wr.heap.size, 0, none⟩ 1 1 [.int .i64 x] rfl rfl (one_cells (by simp)) (by simp [Value.oneCell']) (by simp [maxLen]; omega) (by (try simp only [List.length_append, List.length_cons, List.length_nil]); omega) (by simp; omega) ?_)
          intro v1 w1 o1 g1 n1
          have O1 : Owns w.heap.size 3 v1 (ys ++ [x]) w1 := by unfold Owns; simpa using o1
          have B1 := B0.trans (O0.grow (by simp; omega) g1)
          clear o1 g1 n1 O0 B0 own hB c1
          go_wp2_with fail
          go_roundw
          case measure => simp [intOf]; omega
          exact ⟨k + 1, true, _, by omega, by go_num, rfl, st', O1, B1⟩
        · skip
          have O0 := own.alloc (.cells #[.int .i64 y] 3)
          have B0 := hB.alloc hs (.cells #[.int .i64 y] 3)
          go_wp2_with (at_builtin; refine wpList_append_own _ rfl (.tmp 35) (.tmp 40) 55 rfl w.heap.size 3 i0 (.int .i64 0) 1 8 Try.underlying55 hi hz0 hz1 hz2 rfl (by decide) _ _ _ rfl O0 ⟨wr.heap.size, 0, none⟩ 1 1 [.int .i64 y] rfl rfl (one_cells (by simp)) (by simp [Value.oneCell']) (by simp [maxLen]; omega) (by (try simp only [List.length_append, List.length_cons, List.length_nil]); omega) (by simp; omega) ?_)
          intro v1 w1 o1 g1 n1
          have O1 : Owns w.heap.size 3 v1 (ys ++ [y]) w1 := by unfold Owns; simpa using o1
          have B1 := B0.trans (O0.grow (by simp; omega) g1)
          clear o1 g1 n1 O0 B0 own hB c1
          go_wp2_with fail
          go_roundw
          case measure => simp [intOf]; omega
          exact ⟨k + 1, true, _, by omega, by go_num, rfl, st', O1, B1⟩
    · obtain rfl : k = n := by omega
      clear ha
      have hs := hB.size
      cases d
      · have O0 := own.alloc (.cells #[.int .i64 x] 3)
        have B0 := hB.alloc hB.size (.cells #[.int .i64 x] 3)
        go_wp2_with (at_builtin; refine wpList_append_own _ rfl (.tmp 44) (.tmp 46) 55 rfl w.heap.size 3 i0 (.int .i64 0) 1 8 Try.underlying55 hi hz0 hz1 hz2 rfl (by decide) _ _ _ rfl O0 ⟨wr.heap.size, 0, none⟩ 1 1 [.int .i64 x] rfl rfl (one_cells (by simp)) (by simp [Value.oneCell']) (by simp [maxLen]; omega) (by (try simp only [List.length_append, List.length_cons, List.length_nil]); omega) (by simp; omega) ?_)
        intro v1 w1 o1 g1 n1
        have O1 : Owns w.heap.size 3 v1 (ys ++ [x]) w1 := by unfold Owns; simpa using o1
        have B1 := B0.trans (O0.grow (by simp; have := hB.size; omega) g1)
        subst hlen
        rw [st.endOff] at O1
        clear o1 g1 n1 O0 B0 own hB
        go_wp2_with fail
        go_ret
        exact ⟨_, rfl, O1, B1⟩
      · subst hlen
        rw [st.endOn] at own
        go_wp2_with fail
        go_ret
        exact ⟨_, rfl, own, hB⟩
end Go.Proofs.Ytndedplmcjfgeaa
